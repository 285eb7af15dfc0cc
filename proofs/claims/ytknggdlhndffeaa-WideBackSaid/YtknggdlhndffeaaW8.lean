/- The chapter's first examples, and the law of rests, walked. -/
import Derived.Test.YtknggdlhndffeaaProg
import Derived.Test.YtknggdlhndffeaaW4
import Derived.Test.YtknggdlhndffeaaW7
set_option linter.unusedVariables false
set_option linter.unusedSimpArgs false
namespace Go.Proofs.Ytknggdlhndffeaa.Wm
theorem dv_rs (x c : Int) : dv x c * c + rs x c = x := by unfold rs; omega
theorem rs_lt {x c : Int} (hc : c ≠ 0) : (0 < c → 0 ≤ rs x c ∧ rs x c < c) ∧ (c < 0 → c < rs x c ∧ rs x c ≤ 0) := by
  by_cases h : x < 0 ↔ c < 0
  · obtain ⟨_, e⟩ := dv_like hc h
    have := Nat.mod_lt x.natAbs (show 0 < c.natAbs by omega)
    rw [e]
    generalize x.natAbs % c.natAbs = r at *
    constructor
    · intro hp; rw [if_neg (by omega)]; omega
    · intro hp; rw [if_pos hp]; omega
  · obtain ⟨e0, e1⟩ := dv_unlike hc h
    have := Nat.mod_lt x.natAbs (show 0 < c.natAbs by omega)
    generalize x.natAbs % c.natAbs = r at *
    by_cases hr : r = 0
    · rw [(e0 hr).2]; omega
    · rw [(e1 hr).2]
      constructor
      · intro hp; rw [if_neg (by omega)]; omega
      · intro hp; rw [if_pos hp]; omega
theorem dv_mul {a c : Int} (hc : c ≠ 0) : dv (a * c) c = a := by
  unfold dv
  split
  · exact Int.mul_ediv_cancel a hc
  · rw [← Int.mul_neg]
    exact Int.mul_ediv_cancel a (by omega)
end Go.Proofs.Ytknggdlhndffeaa.Wm
namespace Go.Proofs.Ytknggdlhndffeaa.Fx
open Go Go.RowKit Wm
theorem muldiv_at (a b c v s : Int) (w : World) (ha0 : -9223372036854775808 ≤ a) (ha1 : a ≤ 9223372036854775807) (hb0 : -9223372036854775808 ≤ b) (hb1 : b ≤ 9223372036854775807) (hc0 : -9223372036854775808 ≤ c) (hc1 : c ≤ 9223372036854775807) (hc : c ≠ 0)
    (hv : (if In64 (dv (a * b) c) then dv (a * b) c else 0) = v) (hs : (if In64 (dv (a * b) c) then 0 else 20) = s) :
    Calls Try.prog 27 #[.int .i64 a, .int .i64 b, .int .i64 c] w fun e w' => e = .returned (.tuple #[.int .i64 v, .int .i64 s]) ∧ Below w.heap.size w w' := by
  subst hv hs
  exact muldiv_any a b c w ha0 ha1 hb0 hb1 hc0 hc1 hc
theorem mul_at (a b : Int) (h : Int) (l : Nat) (w : World) (ha0 : -9223372036854775808 ≤ a) (ha1 : a ≤ 9223372036854775807) (hb0 : -9223372036854775808 ≤ b) (hb1 : b ≤ 9223372036854775807) (hat : At (a * b) h l) :
    Calls Try.prog 21 #[.int .i64 a, .int .i64 b] w fun e w' => e = .returned (.agg #[.int .i64 h, .int .u64 l]) ∧ Below w.heap.size w w' :=
  (mul_any a b w ha0 ha1 hb0 hb1).mono fun e w' ⟨a, b, he, ha, hb⟩ => ⟨by rw [he, (ha.uniq hat).1, (ha.uniq hat).2], hb⟩
set_option maxHeartbeats 1000000 in
theorem alive_any (w : World) : Calls Try.prog 33 #[] w fun e w' => e = .returned (.bool true) ∧ Below w.heap.size w w' := by
  have M1 := fun w => muldiv_at (-7) 1 2 (-4) 0 w (by omega) (by omega) (by omega) (by omega) (by omega) (by omega) (by omega) (by decide +kernel) (by decide +kernel)
  have M2 := fun w => muldiv_at 4611686018427387904 4 8 2305843009213693952 0 w (by omega) (by omega) (by omega) (by omega) (by omega) (by omega) (by omega) (by decide +kernel) (by decide +kernel)
  have M3 := fun w => mul_at 4611686018427387904 4 1 0 w (by omega) (by omega) (by omega) (by omega) (by unfold At; omega)
  have H1 := Lib.hid M1
  have H2 := Lib.hid M2
  have H3 := Lib.hid M3
  clear M1 M2 M3
  go_enter Try.func33, Try.ntmps33
  go_wp2_with fail
  refine (H1.out _).mono ?_
  rintro e wx1 ⟨rfl, hb1⟩
  have hB1 : Below w.heap.size w wx1 := by (repeat' (first | (with_reducible exact Below.refl _ _) | (with_reducible assumption) | (with_reducible refine Below.drew ?_) | (with_reducible refine Below.setCell ?_ ?_ _) | (with_reducible refine bnext ?_ (by assumption)) | (with_reducible refine Below.alloc ?_ ?_ _) | go_size))
  have hS1 : w.heap.size ≤ wx1.heap.size := hB1.size
  go_wp2_with fail
  refine (H2.out _).mono ?_
  rintro e wx2 ⟨rfl, hb2⟩
  have hB2 : Below w.heap.size w wx2 := by (repeat' (first | (with_reducible exact Below.refl _ _) | (with_reducible assumption) | (with_reducible refine Below.drew ?_) | (with_reducible refine Below.setCell ?_ ?_ _) | (with_reducible refine bnext ?_ (by assumption)) | (with_reducible refine Below.alloc ?_ ?_ _) | go_size))
  have hS2 : w.heap.size ≤ wx2.heap.size := hB2.size
  go_wp2_with fail
  refine (H3.out _).mono ?_
  rintro e wx3 ⟨rfl, hb3⟩
  have hB3 : Below w.heap.size w wx3 := by (repeat' (first | (with_reducible exact Below.refl _ _) | (with_reducible assumption) | (with_reducible refine Below.drew ?_) | (with_reducible refine Below.setCell ?_ ?_ _) | (with_reducible refine bnext ?_ (by assumption)) | (with_reducible refine Below.alloc ?_ ?_ _) | go_size))
  have hS3 : w.heap.size ≤ wx3.heap.size := hB3.size
  go_wp2
  go_ret
  exact ⟨rfl, by (repeat' (first | (with_reducible exact Below.refl _ _) | (with_reducible assumption) | (with_reducible refine Below.drew ?_) | (with_reducible refine Below.setCell ?_ ?_ _) | (with_reducible refine bnext ?_ (by assumption)) | (with_reducible refine Below.alloc ?_ ?_ _) | go_size))⟩
set_option maxHeartbeats 1600000 in
theorem rests_zero (h : Int) (l : Nat) (a c : Int) (w : World)
    (hc : (c == 0) = true) : Calls Try.prog 7 #[.agg #[.int .i64 h, .int .u64 l], .int .i64 a, .int .i64 c] w fun e w' => e = .returned (.bool true) ∧ Below w.heap.size w w' := by
  go_enter Try.func7, Try.ntmps7
  go_wp2_with fail
  refine (alive_any _).mono ?_
  rintro e wx1 ⟨rfl, hb1⟩
  have hB1 : Below w.heap.size w wx1 := by (repeat' (first | (with_reducible exact Below.refl _ _) | (with_reducible assumption) | (with_reducible refine Below.drew ?_) | (with_reducible refine Below.setCell ?_ ?_ _) | (with_reducible refine bnext ?_ (by assumption)) | (with_reducible refine Below.alloc ?_ ?_ _) | go_size))
  have hS1 : w.heap.size ≤ wx1.heap.size := hB1.size
  have hz1_0 : w.heap.size < wx1.heap.size := Nat.lt_of_lt_of_le (by first | assumption | (simp [go_sem]; done) | (simp [go_sem]; omega)) hb1.size
  have k1_0 : wx1.cell? ⟨w.heap.size, 0, none⟩ = some (.int .i64 h) := keep_cell hb1 (by first | assumption | (simp [go_sem, *]; done))
  have k1_1 : wx1.cell? ⟨w.heap.size, 1, none⟩ = some (.int .u64 l) := keep_cell hb1 (by first | assumption | (simp [go_sem, *]; done))
  have f1_0 : wx1.frozen? ⟨w.heap.size, 0, none⟩ = false := keep_free hb1 (by first | assumption | (simp [go_sem]; done) | (simp [go_sem]; omega)) (by first | assumption | (simp [go_sem, *]; done))
  have f1_1 : wx1.frozen? ⟨w.heap.size, 1, none⟩ = false := keep_free hb1 (by first | assumption | (simp [go_sem]; done) | (simp [go_sem]; omega)) (by first | assumption | (simp [go_sem, *]; done))
  go_wp2
  go_ret
  exact ⟨rfl, by (repeat' (first | (with_reducible exact Below.refl _ _) | (with_reducible assumption) | (with_reducible refine Below.drew ?_) | (with_reducible refine Below.setCell ?_ ?_ _) | (with_reducible refine bnext ?_ (by assumption)) | (with_reducible refine Below.alloc ?_ ?_ _) | go_size))⟩
set_option maxHeartbeats 1600000 in
theorem rests_err (h : Int) (l : Nat) (a c : Int) (w : World)
    (hc : (c == 0) = false) (hmd : ∀ w, Calls Try.prog 27 #[.int .i64 a, .int .i64 c, .int .i64 c] w fun e w' => e = .returned (.tuple #[.int .i64 a, .int .i64 0]) ∧ Below w.heap.size w w')
    (hd : ∀ w, Calls Try.prog 25 #[.agg #[.int .i64 h, .int .u64 l], .int .i64 c] w (RetD 0 0 20 w)) : Calls Try.prog 7 #[.agg #[.int .i64 h, .int .u64 l], .int .i64 a, .int .i64 c] w fun e w' => e = .returned (.bool true) ∧ Below w.heap.size w w' := by
  have HMD := Lib.hid hmd
  clear hmd
  have HD := Lib.hid hd
  clear hd
  go_enter Try.func7, Try.ntmps7
  go_wp2_with fail
  refine (alive_any _).mono ?_
  rintro e wx1 ⟨rfl, hb1⟩
  have hB1 : Below w.heap.size w wx1 := by (repeat' (first | (with_reducible exact Below.refl _ _) | (with_reducible assumption) | (with_reducible refine Below.drew ?_) | (with_reducible refine Below.setCell ?_ ?_ _) | (with_reducible refine bnext ?_ (by assumption)) | (with_reducible refine Below.alloc ?_ ?_ _) | go_size))
  have hS1 : w.heap.size ≤ wx1.heap.size := hB1.size
  have hz1_0 : w.heap.size < wx1.heap.size := Nat.lt_of_lt_of_le (by first | assumption | (simp [go_sem]; done) | (simp [go_sem]; omega)) hb1.size
  have k1_0 : wx1.cell? ⟨w.heap.size, 0, none⟩ = some (.int .i64 h) := keep_cell hb1 (by first | assumption | (simp [go_sem, *]; done))
  have k1_1 : wx1.cell? ⟨w.heap.size, 1, none⟩ = some (.int .u64 l) := keep_cell hb1 (by first | assumption | (simp [go_sem, *]; done))
  have f1_0 : wx1.frozen? ⟨w.heap.size, 0, none⟩ = false := keep_free hb1 (by first | assumption | (simp [go_sem]; done) | (simp [go_sem]; omega)) (by first | assumption | (simp [go_sem, *]; done))
  have f1_1 : wx1.frozen? ⟨w.heap.size, 1, none⟩ = false := keep_free hb1 (by first | assumption | (simp [go_sem]; done) | (simp [go_sem]; omega)) (by first | assumption | (simp [go_sem, *]; done))
  go_wp2_with fail
  refine (HMD.out _).mono ?_
  rintro e wx2 ⟨rfl, hb2⟩
  have hB2 : Below w.heap.size w wx2 := by (repeat' (first | (with_reducible exact Below.refl _ _) | (with_reducible assumption) | (with_reducible refine Below.drew ?_) | (with_reducible refine Below.setCell ?_ ?_ _) | (with_reducible refine bnext ?_ (by assumption)) | (with_reducible refine Below.alloc ?_ ?_ _) | go_size))
  have hS2 : w.heap.size ≤ wx2.heap.size := hB2.size
  have hz2_0 : w.heap.size < wx2.heap.size := Nat.lt_of_lt_of_le (by first | assumption | (simp [go_sem]; done) | (simp [go_sem]; omega)) hb2.size
  have k2_0 : wx2.cell? ⟨w.heap.size, 0, none⟩ = some (.int .i64 h) := keep_cell hb2 (by first | assumption | (simp [go_sem, *]; done))
  have k2_1 : wx2.cell? ⟨w.heap.size, 1, none⟩ = some (.int .u64 l) := keep_cell hb2 (by first | assumption | (simp [go_sem, *]; done))
  have f2_0 : wx2.frozen? ⟨w.heap.size, 0, none⟩ = false := keep_free hb2 (by first | assumption | (simp [go_sem]; done) | (simp [go_sem]; omega)) (by first | assumption | (simp [go_sem, *]; done))
  have f2_1 : wx2.frozen? ⟨w.heap.size, 1, none⟩ = false := keep_free hb2 (by first | assumption | (simp [go_sem]; done) | (simp [go_sem]; omega)) (by first | assumption | (simp [go_sem, *]; done))
  go_wp2_with fail
  refine (HD.out _).mono ?_
  rintro e wx3 ⟨a2, b2, rfl, hat2, hb3⟩
  have hB3 : Below w.heap.size w wx3 := by (repeat' (first | (with_reducible exact Below.refl _ _) | (with_reducible assumption) | (with_reducible refine Below.drew ?_) | (with_reducible refine Below.setCell ?_ ?_ _) | (with_reducible refine bnext ?_ (by assumption)) | (with_reducible refine Below.alloc ?_ ?_ _) | go_size))
  have hS3 : w.heap.size ≤ wx3.heap.size := hB3.size
  have hz3_0 : w.heap.size < wx3.heap.size := Nat.lt_of_lt_of_le (by first | assumption | (simp [go_sem]; done) | (simp [go_sem]; omega)) hb3.size
  have k3_0 : wx3.cell? ⟨w.heap.size, 0, none⟩ = some (.int .i64 h) := keep_cell hb3 (by first | assumption | (simp [go_sem, *]; done))
  have k3_1 : wx3.cell? ⟨w.heap.size, 1, none⟩ = some (.int .u64 l) := keep_cell hb3 (by first | assumption | (simp [go_sem, *]; done))
  have f3_0 : wx3.frozen? ⟨w.heap.size, 0, none⟩ = false := keep_free hb3 (by first | assumption | (simp [go_sem]; done) | (simp [go_sem]; omega)) (by first | assumption | (simp [go_sem, *]; done))
  have f3_1 : wx3.frozen? ⟨w.heap.size, 1, none⟩ = false := keep_free hb3 (by first | assumption | (simp [go_sem]; done) | (simp [go_sem]; omega)) (by first | assumption | (simp [go_sem, *]; done))
  have HA2 := Lib.hid hat2
  clear hat2
  go_wp2
  go_ret
  exact ⟨rfl, by (repeat' (first | (with_reducible exact Below.refl _ _) | (with_reducible assumption) | (with_reducible refine Below.drew ?_) | (with_reducible refine Below.setCell ?_ ?_ _) | (with_reducible refine bnext ?_ (by assumption)) | (with_reducible refine Below.alloc ?_ ?_ _) | go_size))⟩
set_option maxHeartbeats 1600000 in
theorem rests_big_p (h : Int) (l : Nat) (a c : Int) (q r : Int) (w : World)
    (hc : (c == 0) = false) (hmd : ∀ w, Calls Try.prog 27 #[.int .i64 a, .int .i64 c, .int .i64 c] w fun e w' => e = .returned (.tuple #[.int .i64 a, .int .i64 0]) ∧ Below w.heap.size w w')
    (hd : ∀ w, Calls Try.prog 25 #[.agg #[.int .i64 h, .int .u64 l], .int .i64 c] w (RetD q r 0 w))
    (hi : ∀ w h l, At q h l → Calls Try.prog 19 #[.agg #[.int .i64 h, .int .u64 l]] w fun e w' => e = .returned (.tuple #[.int .i64 0, .int .i64 20]) ∧ Below w.heap.size w w')
    (cs : decide (c < 0) = false) (cp : decide (0 < c) = true) (rz : (r != 0) = true) (rn : decide (r < 0) = false) (rc : decide (c ≤ r) = false) (rc2 : decide (r ≤ c) = true) : Calls Try.prog 7 #[.agg #[.int .i64 h, .int .u64 l], .int .i64 a, .int .i64 c] w fun e w' => e = .returned (.bool true) ∧ Below w.heap.size w w' := by
  have HMD := Lib.hid hmd
  clear hmd
  have HD := Lib.hid hd
  clear hd
  have HI := Lib.hid hi
  clear hi
  go_enter Try.func7, Try.ntmps7
  go_wp2_with fail
  refine (alive_any _).mono ?_
  rintro e wx1 ⟨rfl, hb1⟩
  have hB1 : Below w.heap.size w wx1 := by (repeat' (first | (with_reducible exact Below.refl _ _) | (with_reducible assumption) | (with_reducible refine Below.drew ?_) | (with_reducible refine Below.setCell ?_ ?_ _) | (with_reducible refine bnext ?_ (by assumption)) | (with_reducible refine Below.alloc ?_ ?_ _) | go_size))
  have hS1 : w.heap.size ≤ wx1.heap.size := hB1.size
  have hz1_0 : w.heap.size < wx1.heap.size := Nat.lt_of_lt_of_le (by first | assumption | (simp [go_sem]; done) | (simp [go_sem]; omega)) hb1.size
  have k1_0 : wx1.cell? ⟨w.heap.size, 0, none⟩ = some (.int .i64 h) := keep_cell hb1 (by first | assumption | (simp [go_sem, *]; done))
  have k1_1 : wx1.cell? ⟨w.heap.size, 1, none⟩ = some (.int .u64 l) := keep_cell hb1 (by first | assumption | (simp [go_sem, *]; done))
  have f1_0 : wx1.frozen? ⟨w.heap.size, 0, none⟩ = false := keep_free hb1 (by first | assumption | (simp [go_sem]; done) | (simp [go_sem]; omega)) (by first | assumption | (simp [go_sem, *]; done))
  have f1_1 : wx1.frozen? ⟨w.heap.size, 1, none⟩ = false := keep_free hb1 (by first | assumption | (simp [go_sem]; done) | (simp [go_sem]; omega)) (by first | assumption | (simp [go_sem, *]; done))
  go_wp2_with fail
  refine (HMD.out _).mono ?_
  rintro e wx2 ⟨rfl, hb2⟩
  have hB2 : Below w.heap.size w wx2 := by (repeat' (first | (with_reducible exact Below.refl _ _) | (with_reducible assumption) | (with_reducible refine Below.drew ?_) | (with_reducible refine Below.setCell ?_ ?_ _) | (with_reducible refine bnext ?_ (by assumption)) | (with_reducible refine Below.alloc ?_ ?_ _) | go_size))
  have hS2 : w.heap.size ≤ wx2.heap.size := hB2.size
  have hz2_0 : w.heap.size < wx2.heap.size := Nat.lt_of_lt_of_le (by first | assumption | (simp [go_sem]; done) | (simp [go_sem]; omega)) hb2.size
  have k2_0 : wx2.cell? ⟨w.heap.size, 0, none⟩ = some (.int .i64 h) := keep_cell hb2 (by first | assumption | (simp [go_sem, *]; done))
  have k2_1 : wx2.cell? ⟨w.heap.size, 1, none⟩ = some (.int .u64 l) := keep_cell hb2 (by first | assumption | (simp [go_sem, *]; done))
  have f2_0 : wx2.frozen? ⟨w.heap.size, 0, none⟩ = false := keep_free hb2 (by first | assumption | (simp [go_sem]; done) | (simp [go_sem]; omega)) (by first | assumption | (simp [go_sem, *]; done))
  have f2_1 : wx2.frozen? ⟨w.heap.size, 1, none⟩ = false := keep_free hb2 (by first | assumption | (simp [go_sem]; done) | (simp [go_sem]; omega)) (by first | assumption | (simp [go_sem, *]; done))
  go_wp2_with fail
  refine (HD.out _).mono ?_
  rintro e wx3 ⟨a2, b2, rfl, hat2, hb3⟩
  have hB3 : Below w.heap.size w wx3 := by (repeat' (first | (with_reducible exact Below.refl _ _) | (with_reducible assumption) | (with_reducible refine Below.drew ?_) | (with_reducible refine Below.setCell ?_ ?_ _) | (with_reducible refine bnext ?_ (by assumption)) | (with_reducible refine Below.alloc ?_ ?_ _) | go_size))
  have hS3 : w.heap.size ≤ wx3.heap.size := hB3.size
  have hz3_0 : w.heap.size < wx3.heap.size := Nat.lt_of_lt_of_le (by first | assumption | (simp [go_sem]; done) | (simp [go_sem]; omega)) hb3.size
  have k3_0 : wx3.cell? ⟨w.heap.size, 0, none⟩ = some (.int .i64 h) := keep_cell hb3 (by first | assumption | (simp [go_sem, *]; done))
  have k3_1 : wx3.cell? ⟨w.heap.size, 1, none⟩ = some (.int .u64 l) := keep_cell hb3 (by first | assumption | (simp [go_sem, *]; done))
  have f3_0 : wx3.frozen? ⟨w.heap.size, 0, none⟩ = false := keep_free hb3 (by first | assumption | (simp [go_sem]; done) | (simp [go_sem]; omega)) (by first | assumption | (simp [go_sem, *]; done))
  have f3_1 : wx3.frozen? ⟨w.heap.size, 1, none⟩ = false := keep_free hb3 (by first | assumption | (simp [go_sem]; done) | (simp [go_sem]; omega)) (by first | assumption | (simp [go_sem, *]; done))
  have HA2 := Lib.hid hat2
  clear hat2
  go_wp2_with fail
  refine (HI.out _ a2 b2 HA2.out).mono ?_
  rintro e wx4 ⟨rfl, hb4⟩
  have hB4 : Below w.heap.size w wx4 := by (repeat' (first | (with_reducible exact Below.refl _ _) | (with_reducible assumption) | (with_reducible refine Below.drew ?_) | (with_reducible refine Below.setCell ?_ ?_ _) | (with_reducible refine bnext ?_ (by assumption)) | (with_reducible refine Below.alloc ?_ ?_ _) | go_size))
  have hS4 : w.heap.size ≤ wx4.heap.size := hB4.size
  have hz4_0 : w.heap.size < wx4.heap.size := Nat.lt_of_lt_of_le (by first | assumption | (simp [go_sem]; done) | (simp [go_sem]; omega)) hb4.size
  have hz4_1 : wx3.heap.size < wx4.heap.size := Nat.lt_of_lt_of_le (by first | assumption | (simp [go_sem]; done) | (simp [go_sem]; omega)) hb4.size
  have k4_0 : wx4.cell? ⟨w.heap.size, 0, none⟩ = some (.int .i64 h) := keep_cell hb4 (by first | assumption | (simp [go_sem, *]; done))
  have k4_1 : wx4.cell? ⟨w.heap.size, 1, none⟩ = some (.int .u64 l) := keep_cell hb4 (by first | assumption | (simp [go_sem, *]; done))
  have k4_2 : wx4.cell? ⟨wx3.heap.size, 0, none⟩ = some (.int .i64 a2) := keep_cell hb4 (by first | assumption | (simp [go_sem, *]; done))
  have k4_3 : wx4.cell? ⟨wx3.heap.size, 1, none⟩ = some (.int .u64 b2) := keep_cell hb4 (by first | assumption | (simp [go_sem, *]; done))
  have f4_0 : wx4.frozen? ⟨w.heap.size, 0, none⟩ = false := keep_free hb4 (by first | assumption | (simp [go_sem]; done) | (simp [go_sem]; omega)) (by first | assumption | (simp [go_sem, *]; done))
  have f4_1 : wx4.frozen? ⟨w.heap.size, 1, none⟩ = false := keep_free hb4 (by first | assumption | (simp [go_sem]; done) | (simp [go_sem]; omega)) (by first | assumption | (simp [go_sem, *]; done))
  have f4_2 : wx4.frozen? ⟨wx3.heap.size, 0, none⟩ = false := keep_free hb4 (by first | assumption | (simp [go_sem]; done) | (simp [go_sem]; omega)) (by first | assumption | (simp [go_sem, *]; done))
  have f4_3 : wx4.frozen? ⟨wx3.heap.size, 1, none⟩ = false := keep_free hb4 (by first | assumption | (simp [go_sem]; done) | (simp [go_sem]; omega)) (by first | assumption | (simp [go_sem, *]; done))
  go_wp2
  go_ret
  exact ⟨rfl, by (repeat' (first | (with_reducible exact Below.refl _ _) | (with_reducible assumption) | (with_reducible refine Below.drew ?_) | (with_reducible refine Below.setCell ?_ ?_ _) | (with_reducible refine bnext ?_ (by assumption)) | (with_reducible refine Below.alloc ?_ ?_ _) | go_size))⟩
set_option maxHeartbeats 1600000 in
theorem rests_full_p (h : Int) (l : Nat) (a c : Int) (q r p : Int) (w : World)
    (hc : (c == 0) = false) (hmd : ∀ w, Calls Try.prog 27 #[.int .i64 a, .int .i64 c, .int .i64 c] w fun e w' => e = .returned (.tuple #[.int .i64 a, .int .i64 0]) ∧ Below w.heap.size w w')
    (hd : ∀ w, Calls Try.prog 25 #[.agg #[.int .i64 h, .int .u64 l], .int .i64 c] w (RetD q r 0 w))
    (hi : ∀ w h l, At q h l → Calls Try.prog 19 #[.agg #[.int .i64 h, .int .u64 l]] w fun e w' => e = .returned (.tuple #[.int .i64 q, .int .i64 0]) ∧ Below w.heap.size w w')
    (hm : ∀ w, Calls Try.prog 21 #[.int .i64 q, .int .i64 c] w (RetW p w)) (ho : ∀ w, Calls Try.prog 22 #[.int .i64 r] w (RetW r w))
    (had : ∀ w h1 h2 l1 l2, At p h1 l1 → At r h2 l2 → Calls Try.prog 13 #[.agg #[.int .i64 h1, .int .u64 l1], .agg #[.int .i64 h2, .int .u64 l2]] w fun e w' => e = .returned (.tuple #[.agg #[.int .i64 h, .int .u64 l], .int .i64 0]) ∧ Below w.heap.size w w')
    (cs : decide (c < 0) = false) (cp : decide (0 < c) = true) (rz : (r != 0) = true) (rn : decide (r < 0) = false) (rc : decide (c ≤ r) = false) (rc2 : decide (r ≤ c) = true) : Calls Try.prog 7 #[.agg #[.int .i64 h, .int .u64 l], .int .i64 a, .int .i64 c] w fun e w' => e = .returned (.bool true) ∧ Below w.heap.size w w' := by
  have HMD := Lib.hid hmd
  clear hmd
  have HD := Lib.hid hd
  clear hd
  have HI := Lib.hid hi
  clear hi
  have HM := Lib.hid hm
  clear hm
  have HO := Lib.hid ho
  clear ho
  have HAD := Lib.hid had
  clear had
  go_enter Try.func7, Try.ntmps7
  go_wp2_with fail
  refine (alive_any _).mono ?_
  rintro e wx1 ⟨rfl, hb1⟩
  have hB1 : Below w.heap.size w wx1 := by (repeat' (first | (with_reducible exact Below.refl _ _) | (with_reducible assumption) | (with_reducible refine Below.drew ?_) | (with_reducible refine Below.setCell ?_ ?_ _) | (with_reducible refine bnext ?_ (by assumption)) | (with_reducible refine Below.alloc ?_ ?_ _) | go_size))
  have hS1 : w.heap.size ≤ wx1.heap.size := hB1.size
  have hz1_0 : w.heap.size < wx1.heap.size := Nat.lt_of_lt_of_le (by first | assumption | (simp [go_sem]; done) | (simp [go_sem]; omega)) hb1.size
  have k1_0 : wx1.cell? ⟨w.heap.size, 0, none⟩ = some (.int .i64 h) := keep_cell hb1 (by first | assumption | (simp [go_sem, *]; done))
  have k1_1 : wx1.cell? ⟨w.heap.size, 1, none⟩ = some (.int .u64 l) := keep_cell hb1 (by first | assumption | (simp [go_sem, *]; done))
  have f1_0 : wx1.frozen? ⟨w.heap.size, 0, none⟩ = false := keep_free hb1 (by first | assumption | (simp [go_sem]; done) | (simp [go_sem]; omega)) (by first | assumption | (simp [go_sem, *]; done))
  have f1_1 : wx1.frozen? ⟨w.heap.size, 1, none⟩ = false := keep_free hb1 (by first | assumption | (simp [go_sem]; done) | (simp [go_sem]; omega)) (by first | assumption | (simp [go_sem, *]; done))
  go_wp2_with fail
  refine (HMD.out _).mono ?_
  rintro e wx2 ⟨rfl, hb2⟩
  have hB2 : Below w.heap.size w wx2 := by (repeat' (first | (with_reducible exact Below.refl _ _) | (with_reducible assumption) | (with_reducible refine Below.drew ?_) | (with_reducible refine Below.setCell ?_ ?_ _) | (with_reducible refine bnext ?_ (by assumption)) | (with_reducible refine Below.alloc ?_ ?_ _) | go_size))
  have hS2 : w.heap.size ≤ wx2.heap.size := hB2.size
  have hz2_0 : w.heap.size < wx2.heap.size := Nat.lt_of_lt_of_le (by first | assumption | (simp [go_sem]; done) | (simp [go_sem]; omega)) hb2.size
  have k2_0 : wx2.cell? ⟨w.heap.size, 0, none⟩ = some (.int .i64 h) := keep_cell hb2 (by first | assumption | (simp [go_sem, *]; done))
  have k2_1 : wx2.cell? ⟨w.heap.size, 1, none⟩ = some (.int .u64 l) := keep_cell hb2 (by first | assumption | (simp [go_sem, *]; done))
  have f2_0 : wx2.frozen? ⟨w.heap.size, 0, none⟩ = false := keep_free hb2 (by first | assumption | (simp [go_sem]; done) | (simp [go_sem]; omega)) (by first | assumption | (simp [go_sem, *]; done))
  have f2_1 : wx2.frozen? ⟨w.heap.size, 1, none⟩ = false := keep_free hb2 (by first | assumption | (simp [go_sem]; done) | (simp [go_sem]; omega)) (by first | assumption | (simp [go_sem, *]; done))
  go_wp2_with fail
  refine (HD.out _).mono ?_
  rintro e wx3 ⟨a2, b2, rfl, hat2, hb3⟩
  have hB3 : Below w.heap.size w wx3 := by (repeat' (first | (with_reducible exact Below.refl _ _) | (with_reducible assumption) | (with_reducible refine Below.drew ?_) | (with_reducible refine Below.setCell ?_ ?_ _) | (with_reducible refine bnext ?_ (by assumption)) | (with_reducible refine Below.alloc ?_ ?_ _) | go_size))
  have hS3 : w.heap.size ≤ wx3.heap.size := hB3.size
  have hz3_0 : w.heap.size < wx3.heap.size := Nat.lt_of_lt_of_le (by first | assumption | (simp [go_sem]; done) | (simp [go_sem]; omega)) hb3.size
  have k3_0 : wx3.cell? ⟨w.heap.size, 0, none⟩ = some (.int .i64 h) := keep_cell hb3 (by first | assumption | (simp [go_sem, *]; done))
  have k3_1 : wx3.cell? ⟨w.heap.size, 1, none⟩ = some (.int .u64 l) := keep_cell hb3 (by first | assumption | (simp [go_sem, *]; done))
  have f3_0 : wx3.frozen? ⟨w.heap.size, 0, none⟩ = false := keep_free hb3 (by first | assumption | (simp [go_sem]; done) | (simp [go_sem]; omega)) (by first | assumption | (simp [go_sem, *]; done))
  have f3_1 : wx3.frozen? ⟨w.heap.size, 1, none⟩ = false := keep_free hb3 (by first | assumption | (simp [go_sem]; done) | (simp [go_sem]; omega)) (by first | assumption | (simp [go_sem, *]; done))
  have HA2 := Lib.hid hat2
  clear hat2
  go_wp2_with fail
  refine (HI.out _ a2 b2 HA2.out).mono ?_
  rintro e wx4 ⟨rfl, hb4⟩
  have hB4 : Below w.heap.size w wx4 := by (repeat' (first | (with_reducible exact Below.refl _ _) | (with_reducible assumption) | (with_reducible refine Below.drew ?_) | (with_reducible refine Below.setCell ?_ ?_ _) | (with_reducible refine bnext ?_ (by assumption)) | (with_reducible refine Below.alloc ?_ ?_ _) | go_size))
  have hS4 : w.heap.size ≤ wx4.heap.size := hB4.size
  have hz4_0 : w.heap.size < wx4.heap.size := Nat.lt_of_lt_of_le (by first | assumption | (simp [go_sem]; done) | (simp [go_sem]; omega)) hb4.size
  have hz4_1 : wx3.heap.size < wx4.heap.size := Nat.lt_of_lt_of_le (by first | assumption | (simp [go_sem]; done) | (simp [go_sem]; omega)) hb4.size
  have k4_0 : wx4.cell? ⟨w.heap.size, 0, none⟩ = some (.int .i64 h) := keep_cell hb4 (by first | assumption | (simp [go_sem, *]; done))
  have k4_1 : wx4.cell? ⟨w.heap.size, 1, none⟩ = some (.int .u64 l) := keep_cell hb4 (by first | assumption | (simp [go_sem, *]; done))
  have k4_2 : wx4.cell? ⟨wx3.heap.size, 0, none⟩ = some (.int .i64 a2) := keep_cell hb4 (by first | assumption | (simp [go_sem, *]; done))
  have k4_3 : wx4.cell? ⟨wx3.heap.size, 1, none⟩ = some (.int .u64 b2) := keep_cell hb4 (by first | assumption | (simp [go_sem, *]; done))
  have f4_0 : wx4.frozen? ⟨w.heap.size, 0, none⟩ = false := keep_free hb4 (by first | assumption | (simp [go_sem]; done) | (simp [go_sem]; omega)) (by first | assumption | (simp [go_sem, *]; done))
  have f4_1 : wx4.frozen? ⟨w.heap.size, 1, none⟩ = false := keep_free hb4 (by first | assumption | (simp [go_sem]; done) | (simp [go_sem]; omega)) (by first | assumption | (simp [go_sem, *]; done))
  have f4_2 : wx4.frozen? ⟨wx3.heap.size, 0, none⟩ = false := keep_free hb4 (by first | assumption | (simp [go_sem]; done) | (simp [go_sem]; omega)) (by first | assumption | (simp [go_sem, *]; done))
  have f4_3 : wx4.frozen? ⟨wx3.heap.size, 1, none⟩ = false := keep_free hb4 (by first | assumption | (simp [go_sem]; done) | (simp [go_sem]; omega)) (by first | assumption | (simp [go_sem, *]; done))
  go_wp2_with fail
  refine (HM.out _).mono ?_
  rintro e wx5 ⟨a4, b4, rfl, hat4, hb5⟩
  have hB5 : Below w.heap.size w wx5 := by (repeat' (first | (with_reducible exact Below.refl _ _) | (with_reducible assumption) | (with_reducible refine Below.drew ?_) | (with_reducible refine Below.setCell ?_ ?_ _) | (with_reducible refine bnext ?_ (by assumption)) | (with_reducible refine Below.alloc ?_ ?_ _) | go_size))
  have hS5 : w.heap.size ≤ wx5.heap.size := hB5.size
  have hz5_0 : w.heap.size < wx5.heap.size := Nat.lt_of_lt_of_le (by first | assumption | (simp [go_sem]; done) | (simp [go_sem]; omega)) hb5.size
  have hz5_1 : wx3.heap.size < wx5.heap.size := Nat.lt_of_lt_of_le (by first | assumption | (simp [go_sem]; done) | (simp [go_sem]; omega)) hb5.size
  have k5_0 : wx5.cell? ⟨w.heap.size, 0, none⟩ = some (.int .i64 h) := keep_cell hb5 (by first | assumption | (simp [go_sem, *]; done))
  have k5_1 : wx5.cell? ⟨w.heap.size, 1, none⟩ = some (.int .u64 l) := keep_cell hb5 (by first | assumption | (simp [go_sem, *]; done))
  have k5_2 : wx5.cell? ⟨wx3.heap.size, 0, none⟩ = some (.int .i64 a2) := keep_cell hb5 (by first | assumption | (simp [go_sem, *]; done))
  have k5_3 : wx5.cell? ⟨wx3.heap.size, 1, none⟩ = some (.int .u64 b2) := keep_cell hb5 (by first | assumption | (simp [go_sem, *]; done))
  have f5_0 : wx5.frozen? ⟨w.heap.size, 0, none⟩ = false := keep_free hb5 (by first | assumption | (simp [go_sem]; done) | (simp [go_sem]; omega)) (by first | assumption | (simp [go_sem, *]; done))
  have f5_1 : wx5.frozen? ⟨w.heap.size, 1, none⟩ = false := keep_free hb5 (by first | assumption | (simp [go_sem]; done) | (simp [go_sem]; omega)) (by first | assumption | (simp [go_sem, *]; done))
  have f5_2 : wx5.frozen? ⟨wx3.heap.size, 0, none⟩ = false := keep_free hb5 (by first | assumption | (simp [go_sem]; done) | (simp [go_sem]; omega)) (by first | assumption | (simp [go_sem, *]; done))
  have f5_3 : wx5.frozen? ⟨wx3.heap.size, 1, none⟩ = false := keep_free hb5 (by first | assumption | (simp [go_sem]; done) | (simp [go_sem]; omega)) (by first | assumption | (simp [go_sem, *]; done))
  have HA4 := Lib.hid hat4
  clear hat4
  go_wp2_with fail
  refine (HO.out _).mono ?_
  rintro e wx6 ⟨a5, b5, rfl, hat5, hb6⟩
  have hB6 : Below w.heap.size w wx6 := by (repeat' (first | (with_reducible exact Below.refl _ _) | (with_reducible assumption) | (with_reducible refine Below.drew ?_) | (with_reducible refine Below.setCell ?_ ?_ _) | (with_reducible refine bnext ?_ (by assumption)) | (with_reducible refine Below.alloc ?_ ?_ _) | go_size))
  have hS6 : w.heap.size ≤ wx6.heap.size := hB6.size
  have hz6_0 : w.heap.size < wx6.heap.size := Nat.lt_of_lt_of_le (by first | assumption | (simp [go_sem]; done) | (simp [go_sem]; omega)) hb6.size
  have hz6_1 : wx3.heap.size < wx6.heap.size := Nat.lt_of_lt_of_le (by first | assumption | (simp [go_sem]; done) | (simp [go_sem]; omega)) hb6.size
  have k6_0 : wx6.cell? ⟨w.heap.size, 0, none⟩ = some (.int .i64 h) := keep_cell hb6 (by first | assumption | (simp [go_sem, *]; done))
  have k6_1 : wx6.cell? ⟨w.heap.size, 1, none⟩ = some (.int .u64 l) := keep_cell hb6 (by first | assumption | (simp [go_sem, *]; done))
  have k6_2 : wx6.cell? ⟨wx3.heap.size, 0, none⟩ = some (.int .i64 a2) := keep_cell hb6 (by first | assumption | (simp [go_sem, *]; done))
  have k6_3 : wx6.cell? ⟨wx3.heap.size, 1, none⟩ = some (.int .u64 b2) := keep_cell hb6 (by first | assumption | (simp [go_sem, *]; done))
  have f6_0 : wx6.frozen? ⟨w.heap.size, 0, none⟩ = false := keep_free hb6 (by first | assumption | (simp [go_sem]; done) | (simp [go_sem]; omega)) (by first | assumption | (simp [go_sem, *]; done))
  have f6_1 : wx6.frozen? ⟨w.heap.size, 1, none⟩ = false := keep_free hb6 (by first | assumption | (simp [go_sem]; done) | (simp [go_sem]; omega)) (by first | assumption | (simp [go_sem, *]; done))
  have f6_2 : wx6.frozen? ⟨wx3.heap.size, 0, none⟩ = false := keep_free hb6 (by first | assumption | (simp [go_sem]; done) | (simp [go_sem]; omega)) (by first | assumption | (simp [go_sem, *]; done))
  have f6_3 : wx6.frozen? ⟨wx3.heap.size, 1, none⟩ = false := keep_free hb6 (by first | assumption | (simp [go_sem]; done) | (simp [go_sem]; omega)) (by first | assumption | (simp [go_sem, *]; done))
  have HA5 := Lib.hid hat5
  clear hat5
  go_wp2_with fail
  refine (HAD.out _ a4 a5 b4 b5 HA4.out HA5.out).mono ?_
  rintro e wx7 ⟨rfl, hb7⟩
  have hB7 : Below w.heap.size w wx7 := by (repeat' (first | (with_reducible exact Below.refl _ _) | (with_reducible assumption) | (with_reducible refine Below.drew ?_) | (with_reducible refine Below.setCell ?_ ?_ _) | (with_reducible refine bnext ?_ (by assumption)) | (with_reducible refine Below.alloc ?_ ?_ _) | go_size))
  have hS7 : w.heap.size ≤ wx7.heap.size := hB7.size
  have hz7_0 : w.heap.size < wx7.heap.size := Nat.lt_of_lt_of_le (by first | assumption | (simp [go_sem]; done) | (simp [go_sem]; omega)) hb7.size
  have hz7_1 : wx3.heap.size < wx7.heap.size := Nat.lt_of_lt_of_le (by first | assumption | (simp [go_sem]; done) | (simp [go_sem]; omega)) hb7.size
  have k7_0 : wx7.cell? ⟨w.heap.size, 0, none⟩ = some (.int .i64 h) := keep_cell hb7 (by first | assumption | (simp [go_sem, *]; done))
  have k7_1 : wx7.cell? ⟨w.heap.size, 1, none⟩ = some (.int .u64 l) := keep_cell hb7 (by first | assumption | (simp [go_sem, *]; done))
  have k7_2 : wx7.cell? ⟨wx3.heap.size, 0, none⟩ = some (.int .i64 a2) := keep_cell hb7 (by first | assumption | (simp [go_sem, *]; done))
  have k7_3 : wx7.cell? ⟨wx3.heap.size, 1, none⟩ = some (.int .u64 b2) := keep_cell hb7 (by first | assumption | (simp [go_sem, *]; done))
  have f7_0 : wx7.frozen? ⟨w.heap.size, 0, none⟩ = false := keep_free hb7 (by first | assumption | (simp [go_sem]; done) | (simp [go_sem]; omega)) (by first | assumption | (simp [go_sem, *]; done))
  have f7_1 : wx7.frozen? ⟨w.heap.size, 1, none⟩ = false := keep_free hb7 (by first | assumption | (simp [go_sem]; done) | (simp [go_sem]; omega)) (by first | assumption | (simp [go_sem, *]; done))
  have f7_2 : wx7.frozen? ⟨wx3.heap.size, 0, none⟩ = false := keep_free hb7 (by first | assumption | (simp [go_sem]; done) | (simp [go_sem]; omega)) (by first | assumption | (simp [go_sem, *]; done))
  have f7_3 : wx7.frozen? ⟨wx3.heap.size, 1, none⟩ = false := keep_free hb7 (by first | assumption | (simp [go_sem]; done) | (simp [go_sem]; omega)) (by first | assumption | (simp [go_sem, *]; done))
  go_wp2
  go_ret
  exact ⟨rfl, by (repeat' (first | (with_reducible exact Below.refl _ _) | (with_reducible assumption) | (with_reducible refine Below.drew ?_) | (with_reducible refine Below.setCell ?_ ?_ _) | (with_reducible refine bnext ?_ (by assumption)) | (with_reducible refine Below.alloc ?_ ?_ _) | go_size))⟩
set_option maxHeartbeats 1600000 in
theorem rests_big_pz (h : Int) (l : Nat) (a c : Int) (q r : Int) (w : World)
    (hc : (c == 0) = false) (hmd : ∀ w, Calls Try.prog 27 #[.int .i64 a, .int .i64 c, .int .i64 c] w fun e w' => e = .returned (.tuple #[.int .i64 a, .int .i64 0]) ∧ Below w.heap.size w w')
    (hd : ∀ w, Calls Try.prog 25 #[.agg #[.int .i64 h, .int .u64 l], .int .i64 c] w (RetD q r 0 w))
    (hi : ∀ w h l, At q h l → Calls Try.prog 19 #[.agg #[.int .i64 h, .int .u64 l]] w fun e w' => e = .returned (.tuple #[.int .i64 0, .int .i64 20]) ∧ Below w.heap.size w w')
    (cs : decide (c < 0) = false) (cp : decide (0 < c) = true) (rz : (r != 0) = false) (rn : decide (r < 0) = false) (rc : decide (c ≤ r) = false) (rc2 : decide (r ≤ c) = true) : Calls Try.prog 7 #[.agg #[.int .i64 h, .int .u64 l], .int .i64 a, .int .i64 c] w fun e w' => e = .returned (.bool true) ∧ Below w.heap.size w w' := by
  have HMD := Lib.hid hmd
  clear hmd
  have HD := Lib.hid hd
  clear hd
  have HI := Lib.hid hi
  clear hi
  go_enter Try.func7, Try.ntmps7
  go_wp2_with fail
  refine (alive_any _).mono ?_
  rintro e wx1 ⟨rfl, hb1⟩
  have hB1 : Below w.heap.size w wx1 := by (repeat' (first | (with_reducible exact Below.refl _ _) | (with_reducible assumption) | (with_reducible refine Below.drew ?_) | (with_reducible refine Below.setCell ?_ ?_ _) | (with_reducible refine bnext ?_ (by assumption)) | (with_reducible refine Below.alloc ?_ ?_ _) | go_size))
  have hS1 : w.heap.size ≤ wx1.heap.size := hB1.size
  have hz1_0 : w.heap.size < wx1.heap.size := Nat.lt_of_lt_of_le (by first | assumption | (simp [go_sem]; done) | (simp [go_sem]; omega)) hb1.size
  have k1_0 : wx1.cell? ⟨w.heap.size, 0, none⟩ = some (.int .i64 h) := keep_cell hb1 (by first | assumption | (simp [go_sem, *]; done))
  have k1_1 : wx1.cell? ⟨w.heap.size, 1, none⟩ = some (.int .u64 l) := keep_cell hb1 (by first | assumption | (simp [go_sem, *]; done))
  have f1_0 : wx1.frozen? ⟨w.heap.size, 0, none⟩ = false := keep_free hb1 (by first | assumption | (simp [go_sem]; done) | (simp [go_sem]; omega)) (by first | assumption | (simp [go_sem, *]; done))
  have f1_1 : wx1.frozen? ⟨w.heap.size, 1, none⟩ = false := keep_free hb1 (by first | assumption | (simp [go_sem]; done) | (simp [go_sem]; omega)) (by first | assumption | (simp [go_sem, *]; done))
  go_wp2_with fail
  refine (HMD.out _).mono ?_
  rintro e wx2 ⟨rfl, hb2⟩
  have hB2 : Below w.heap.size w wx2 := by (repeat' (first | (with_reducible exact Below.refl _ _) | (with_reducible assumption) | (with_reducible refine Below.drew ?_) | (with_reducible refine Below.setCell ?_ ?_ _) | (with_reducible refine bnext ?_ (by assumption)) | (with_reducible refine Below.alloc ?_ ?_ _) | go_size))
  have hS2 : w.heap.size ≤ wx2.heap.size := hB2.size
  have hz2_0 : w.heap.size < wx2.heap.size := Nat.lt_of_lt_of_le (by first | assumption | (simp [go_sem]; done) | (simp [go_sem]; omega)) hb2.size
  have k2_0 : wx2.cell? ⟨w.heap.size, 0, none⟩ = some (.int .i64 h) := keep_cell hb2 (by first | assumption | (simp [go_sem, *]; done))
  have k2_1 : wx2.cell? ⟨w.heap.size, 1, none⟩ = some (.int .u64 l) := keep_cell hb2 (by first | assumption | (simp [go_sem, *]; done))
  have f2_0 : wx2.frozen? ⟨w.heap.size, 0, none⟩ = false := keep_free hb2 (by first | assumption | (simp [go_sem]; done) | (simp [go_sem]; omega)) (by first | assumption | (simp [go_sem, *]; done))
  have f2_1 : wx2.frozen? ⟨w.heap.size, 1, none⟩ = false := keep_free hb2 (by first | assumption | (simp [go_sem]; done) | (simp [go_sem]; omega)) (by first | assumption | (simp [go_sem, *]; done))
  go_wp2_with fail
  refine (HD.out _).mono ?_
  rintro e wx3 ⟨a2, b2, rfl, hat2, hb3⟩
  have hB3 : Below w.heap.size w wx3 := by (repeat' (first | (with_reducible exact Below.refl _ _) | (with_reducible assumption) | (with_reducible refine Below.drew ?_) | (with_reducible refine Below.setCell ?_ ?_ _) | (with_reducible refine bnext ?_ (by assumption)) | (with_reducible refine Below.alloc ?_ ?_ _) | go_size))
  have hS3 : w.heap.size ≤ wx3.heap.size := hB3.size
  have hz3_0 : w.heap.size < wx3.heap.size := Nat.lt_of_lt_of_le (by first | assumption | (simp [go_sem]; done) | (simp [go_sem]; omega)) hb3.size
  have k3_0 : wx3.cell? ⟨w.heap.size, 0, none⟩ = some (.int .i64 h) := keep_cell hb3 (by first | assumption | (simp [go_sem, *]; done))
  have k3_1 : wx3.cell? ⟨w.heap.size, 1, none⟩ = some (.int .u64 l) := keep_cell hb3 (by first | assumption | (simp [go_sem, *]; done))
  have f3_0 : wx3.frozen? ⟨w.heap.size, 0, none⟩ = false := keep_free hb3 (by first | assumption | (simp [go_sem]; done) | (simp [go_sem]; omega)) (by first | assumption | (simp [go_sem, *]; done))
  have f3_1 : wx3.frozen? ⟨w.heap.size, 1, none⟩ = false := keep_free hb3 (by first | assumption | (simp [go_sem]; done) | (simp [go_sem]; omega)) (by first | assumption | (simp [go_sem, *]; done))
  have HA2 := Lib.hid hat2
  clear hat2
  go_wp2_with fail
  refine (HI.out _ a2 b2 HA2.out).mono ?_
  rintro e wx4 ⟨rfl, hb4⟩
  have hB4 : Below w.heap.size w wx4 := by (repeat' (first | (with_reducible exact Below.refl _ _) | (with_reducible assumption) | (with_reducible refine Below.drew ?_) | (with_reducible refine Below.setCell ?_ ?_ _) | (with_reducible refine bnext ?_ (by assumption)) | (with_reducible refine Below.alloc ?_ ?_ _) | go_size))
  have hS4 : w.heap.size ≤ wx4.heap.size := hB4.size
  have hz4_0 : w.heap.size < wx4.heap.size := Nat.lt_of_lt_of_le (by first | assumption | (simp [go_sem]; done) | (simp [go_sem]; omega)) hb4.size
  have hz4_1 : wx3.heap.size < wx4.heap.size := Nat.lt_of_lt_of_le (by first | assumption | (simp [go_sem]; done) | (simp [go_sem]; omega)) hb4.size
  have k4_0 : wx4.cell? ⟨w.heap.size, 0, none⟩ = some (.int .i64 h) := keep_cell hb4 (by first | assumption | (simp [go_sem, *]; done))
  have k4_1 : wx4.cell? ⟨w.heap.size, 1, none⟩ = some (.int .u64 l) := keep_cell hb4 (by first | assumption | (simp [go_sem, *]; done))
  have k4_2 : wx4.cell? ⟨wx3.heap.size, 0, none⟩ = some (.int .i64 a2) := keep_cell hb4 (by first | assumption | (simp [go_sem, *]; done))
  have k4_3 : wx4.cell? ⟨wx3.heap.size, 1, none⟩ = some (.int .u64 b2) := keep_cell hb4 (by first | assumption | (simp [go_sem, *]; done))
  have f4_0 : wx4.frozen? ⟨w.heap.size, 0, none⟩ = false := keep_free hb4 (by first | assumption | (simp [go_sem]; done) | (simp [go_sem]; omega)) (by first | assumption | (simp [go_sem, *]; done))
  have f4_1 : wx4.frozen? ⟨w.heap.size, 1, none⟩ = false := keep_free hb4 (by first | assumption | (simp [go_sem]; done) | (simp [go_sem]; omega)) (by first | assumption | (simp [go_sem, *]; done))
  have f4_2 : wx4.frozen? ⟨wx3.heap.size, 0, none⟩ = false := keep_free hb4 (by first | assumption | (simp [go_sem]; done) | (simp [go_sem]; omega)) (by first | assumption | (simp [go_sem, *]; done))
  have f4_3 : wx4.frozen? ⟨wx3.heap.size, 1, none⟩ = false := keep_free hb4 (by first | assumption | (simp [go_sem]; done) | (simp [go_sem]; omega)) (by first | assumption | (simp [go_sem, *]; done))
  go_wp2
  go_ret
  exact ⟨rfl, by (repeat' (first | (with_reducible exact Below.refl _ _) | (with_reducible assumption) | (with_reducible refine Below.drew ?_) | (with_reducible refine Below.setCell ?_ ?_ _) | (with_reducible refine bnext ?_ (by assumption)) | (with_reducible refine Below.alloc ?_ ?_ _) | go_size))⟩
set_option maxHeartbeats 1600000 in
theorem rests_full_pz (h : Int) (l : Nat) (a c : Int) (q r p : Int) (w : World)
    (hc : (c == 0) = false) (hmd : ∀ w, Calls Try.prog 27 #[.int .i64 a, .int .i64 c, .int .i64 c] w fun e w' => e = .returned (.tuple #[.int .i64 a, .int .i64 0]) ∧ Below w.heap.size w w')
    (hd : ∀ w, Calls Try.prog 25 #[.agg #[.int .i64 h, .int .u64 l], .int .i64 c] w (RetD q r 0 w))
    (hi : ∀ w h l, At q h l → Calls Try.prog 19 #[.agg #[.int .i64 h, .int .u64 l]] w fun e w' => e = .returned (.tuple #[.int .i64 q, .int .i64 0]) ∧ Below w.heap.size w w')
    (hm : ∀ w, Calls Try.prog 21 #[.int .i64 q, .int .i64 c] w (RetW p w)) (ho : ∀ w, Calls Try.prog 22 #[.int .i64 r] w (RetW r w))
    (had : ∀ w h1 h2 l1 l2, At p h1 l1 → At r h2 l2 → Calls Try.prog 13 #[.agg #[.int .i64 h1, .int .u64 l1], .agg #[.int .i64 h2, .int .u64 l2]] w fun e w' => e = .returned (.tuple #[.agg #[.int .i64 h, .int .u64 l], .int .i64 0]) ∧ Below w.heap.size w w')
    (cs : decide (c < 0) = false) (cp : decide (0 < c) = true) (rz : (r != 0) = false) (rn : decide (r < 0) = false) (rc : decide (c ≤ r) = false) (rc2 : decide (r ≤ c) = true) : Calls Try.prog 7 #[.agg #[.int .i64 h, .int .u64 l], .int .i64 a, .int .i64 c] w fun e w' => e = .returned (.bool true) ∧ Below w.heap.size w w' := by
  have HMD := Lib.hid hmd
  clear hmd
  have HD := Lib.hid hd
  clear hd
  have HI := Lib.hid hi
  clear hi
  have HM := Lib.hid hm
  clear hm
  have HO := Lib.hid ho
  clear ho
  have HAD := Lib.hid had
  clear had
  go_enter Try.func7, Try.ntmps7
  go_wp2_with fail
  refine (alive_any _).mono ?_
  rintro e wx1 ⟨rfl, hb1⟩
  have hB1 : Below w.heap.size w wx1 := by (repeat' (first | (with_reducible exact Below.refl _ _) | (with_reducible assumption) | (with_reducible refine Below.drew ?_) | (with_reducible refine Below.setCell ?_ ?_ _) | (with_reducible refine bnext ?_ (by assumption)) | (with_reducible refine Below.alloc ?_ ?_ _) | go_size))
  have hS1 : w.heap.size ≤ wx1.heap.size := hB1.size
  have hz1_0 : w.heap.size < wx1.heap.size := Nat.lt_of_lt_of_le (by first | assumption | (simp [go_sem]; done) | (simp [go_sem]; omega)) hb1.size
  have k1_0 : wx1.cell? ⟨w.heap.size, 0, none⟩ = some (.int .i64 h) := keep_cell hb1 (by first | assumption | (simp [go_sem, *]; done))
  have k1_1 : wx1.cell? ⟨w.heap.size, 1, none⟩ = some (.int .u64 l) := keep_cell hb1 (by first | assumption | (simp [go_sem, *]; done))
  have f1_0 : wx1.frozen? ⟨w.heap.size, 0, none⟩ = false := keep_free hb1 (by first | assumption | (simp [go_sem]; done) | (simp [go_sem]; omega)) (by first | assumption | (simp [go_sem, *]; done))
  have f1_1 : wx1.frozen? ⟨w.heap.size, 1, none⟩ = false := keep_free hb1 (by first | assumption | (simp [go_sem]; done) | (simp [go_sem]; omega)) (by first | assumption | (simp [go_sem, *]; done))
  go_wp2_with fail
  refine (HMD.out _).mono ?_
  rintro e wx2 ⟨rfl, hb2⟩
  have hB2 : Below w.heap.size w wx2 := by (repeat' (first | (with_reducible exact Below.refl _ _) | (with_reducible assumption) | (with_reducible refine Below.drew ?_) | (with_reducible refine Below.setCell ?_ ?_ _) | (with_reducible refine bnext ?_ (by assumption)) | (with_reducible refine Below.alloc ?_ ?_ _) | go_size))
  have hS2 : w.heap.size ≤ wx2.heap.size := hB2.size
  have hz2_0 : w.heap.size < wx2.heap.size := Nat.lt_of_lt_of_le (by first | assumption | (simp [go_sem]; done) | (simp [go_sem]; omega)) hb2.size
  have k2_0 : wx2.cell? ⟨w.heap.size, 0, none⟩ = some (.int .i64 h) := keep_cell hb2 (by first | assumption | (simp [go_sem, *]; done))
  have k2_1 : wx2.cell? ⟨w.heap.size, 1, none⟩ = some (.int .u64 l) := keep_cell hb2 (by first | assumption | (simp [go_sem, *]; done))
  have f2_0 : wx2.frozen? ⟨w.heap.size, 0, none⟩ = false := keep_free hb2 (by first | assumption | (simp [go_sem]; done) | (simp [go_sem]; omega)) (by first | assumption | (simp [go_sem, *]; done))
  have f2_1 : wx2.frozen? ⟨w.heap.size, 1, none⟩ = false := keep_free hb2 (by first | assumption | (simp [go_sem]; done) | (simp [go_sem]; omega)) (by first | assumption | (simp [go_sem, *]; done))
  go_wp2_with fail
  refine (HD.out _).mono ?_
  rintro e wx3 ⟨a2, b2, rfl, hat2, hb3⟩
  have hB3 : Below w.heap.size w wx3 := by (repeat' (first | (with_reducible exact Below.refl _ _) | (with_reducible assumption) | (with_reducible refine Below.drew ?_) | (with_reducible refine Below.setCell ?_ ?_ _) | (with_reducible refine bnext ?_ (by assumption)) | (with_reducible refine Below.alloc ?_ ?_ _) | go_size))
  have hS3 : w.heap.size ≤ wx3.heap.size := hB3.size
  have hz3_0 : w.heap.size < wx3.heap.size := Nat.lt_of_lt_of_le (by first | assumption | (simp [go_sem]; done) | (simp [go_sem]; omega)) hb3.size
  have k3_0 : wx3.cell? ⟨w.heap.size, 0, none⟩ = some (.int .i64 h) := keep_cell hb3 (by first | assumption | (simp [go_sem, *]; done))
  have k3_1 : wx3.cell? ⟨w.heap.size, 1, none⟩ = some (.int .u64 l) := keep_cell hb3 (by first | assumption | (simp [go_sem, *]; done))
  have f3_0 : wx3.frozen? ⟨w.heap.size, 0, none⟩ = false := keep_free hb3 (by first | assumption | (simp [go_sem]; done) | (simp [go_sem]; omega)) (by first | assumption | (simp [go_sem, *]; done))
  have f3_1 : wx3.frozen? ⟨w.heap.size, 1, none⟩ = false := keep_free hb3 (by first | assumption | (simp [go_sem]; done) | (simp [go_sem]; omega)) (by first | assumption | (simp [go_sem, *]; done))
  have HA2 := Lib.hid hat2
  clear hat2
  go_wp2_with fail
  refine (HI.out _ a2 b2 HA2.out).mono ?_
  rintro e wx4 ⟨rfl, hb4⟩
  have hB4 : Below w.heap.size w wx4 := by (repeat' (first | (with_reducible exact Below.refl _ _) | (with_reducible assumption) | (with_reducible refine Below.drew ?_) | (with_reducible refine Below.setCell ?_ ?_ _) | (with_reducible refine bnext ?_ (by assumption)) | (with_reducible refine Below.alloc ?_ ?_ _) | go_size))
  have hS4 : w.heap.size ≤ wx4.heap.size := hB4.size
  have hz4_0 : w.heap.size < wx4.heap.size := Nat.lt_of_lt_of_le (by first | assumption | (simp [go_sem]; done) | (simp [go_sem]; omega)) hb4.size
  have hz4_1 : wx3.heap.size < wx4.heap.size := Nat.lt_of_lt_of_le (by first | assumption | (simp [go_sem]; done) | (simp [go_sem]; omega)) hb4.size
  have k4_0 : wx4.cell? ⟨w.heap.size, 0, none⟩ = some (.int .i64 h) := keep_cell hb4 (by first | assumption | (simp [go_sem, *]; done))
  have k4_1 : wx4.cell? ⟨w.heap.size, 1, none⟩ = some (.int .u64 l) := keep_cell hb4 (by first | assumption | (simp [go_sem, *]; done))
  have k4_2 : wx4.cell? ⟨wx3.heap.size, 0, none⟩ = some (.int .i64 a2) := keep_cell hb4 (by first | assumption | (simp [go_sem, *]; done))
  have k4_3 : wx4.cell? ⟨wx3.heap.size, 1, none⟩ = some (.int .u64 b2) := keep_cell hb4 (by first | assumption | (simp [go_sem, *]; done))
  have f4_0 : wx4.frozen? ⟨w.heap.size, 0, none⟩ = false := keep_free hb4 (by first | assumption | (simp [go_sem]; done) | (simp [go_sem]; omega)) (by first | assumption | (simp [go_sem, *]; done))
  have f4_1 : wx4.frozen? ⟨w.heap.size, 1, none⟩ = false := keep_free hb4 (by first | assumption | (simp [go_sem]; done) | (simp [go_sem]; omega)) (by first | assumption | (simp [go_sem, *]; done))
  have f4_2 : wx4.frozen? ⟨wx3.heap.size, 0, none⟩ = false := keep_free hb4 (by first | assumption | (simp [go_sem]; done) | (simp [go_sem]; omega)) (by first | assumption | (simp [go_sem, *]; done))
  have f4_3 : wx4.frozen? ⟨wx3.heap.size, 1, none⟩ = false := keep_free hb4 (by first | assumption | (simp [go_sem]; done) | (simp [go_sem]; omega)) (by first | assumption | (simp [go_sem, *]; done))
  go_wp2_with fail
  refine (HM.out _).mono ?_
  rintro e wx5 ⟨a4, b4, rfl, hat4, hb5⟩
  have hB5 : Below w.heap.size w wx5 := by (repeat' (first | (with_reducible exact Below.refl _ _) | (with_reducible assumption) | (with_reducible refine Below.drew ?_) | (with_reducible refine Below.setCell ?_ ?_ _) | (with_reducible refine bnext ?_ (by assumption)) | (with_reducible refine Below.alloc ?_ ?_ _) | go_size))
  have hS5 : w.heap.size ≤ wx5.heap.size := hB5.size
  have hz5_0 : w.heap.size < wx5.heap.size := Nat.lt_of_lt_of_le (by first | assumption | (simp [go_sem]; done) | (simp [go_sem]; omega)) hb5.size
  have hz5_1 : wx3.heap.size < wx5.heap.size := Nat.lt_of_lt_of_le (by first | assumption | (simp [go_sem]; done) | (simp [go_sem]; omega)) hb5.size
  have k5_0 : wx5.cell? ⟨w.heap.size, 0, none⟩ = some (.int .i64 h) := keep_cell hb5 (by first | assumption | (simp [go_sem, *]; done))
  have k5_1 : wx5.cell? ⟨w.heap.size, 1, none⟩ = some (.int .u64 l) := keep_cell hb5 (by first | assumption | (simp [go_sem, *]; done))
  have k5_2 : wx5.cell? ⟨wx3.heap.size, 0, none⟩ = some (.int .i64 a2) := keep_cell hb5 (by first | assumption | (simp [go_sem, *]; done))
  have k5_3 : wx5.cell? ⟨wx3.heap.size, 1, none⟩ = some (.int .u64 b2) := keep_cell hb5 (by first | assumption | (simp [go_sem, *]; done))
  have f5_0 : wx5.frozen? ⟨w.heap.size, 0, none⟩ = false := keep_free hb5 (by first | assumption | (simp [go_sem]; done) | (simp [go_sem]; omega)) (by first | assumption | (simp [go_sem, *]; done))
  have f5_1 : wx5.frozen? ⟨w.heap.size, 1, none⟩ = false := keep_free hb5 (by first | assumption | (simp [go_sem]; done) | (simp [go_sem]; omega)) (by first | assumption | (simp [go_sem, *]; done))
  have f5_2 : wx5.frozen? ⟨wx3.heap.size, 0, none⟩ = false := keep_free hb5 (by first | assumption | (simp [go_sem]; done) | (simp [go_sem]; omega)) (by first | assumption | (simp [go_sem, *]; done))
  have f5_3 : wx5.frozen? ⟨wx3.heap.size, 1, none⟩ = false := keep_free hb5 (by first | assumption | (simp [go_sem]; done) | (simp [go_sem]; omega)) (by first | assumption | (simp [go_sem, *]; done))
  have HA4 := Lib.hid hat4
  clear hat4
  go_wp2_with fail
  refine (HO.out _).mono ?_
  rintro e wx6 ⟨a5, b5, rfl, hat5, hb6⟩
  have hB6 : Below w.heap.size w wx6 := by (repeat' (first | (with_reducible exact Below.refl _ _) | (with_reducible assumption) | (with_reducible refine Below.drew ?_) | (with_reducible refine Below.setCell ?_ ?_ _) | (with_reducible refine bnext ?_ (by assumption)) | (with_reducible refine Below.alloc ?_ ?_ _) | go_size))
  have hS6 : w.heap.size ≤ wx6.heap.size := hB6.size
  have hz6_0 : w.heap.size < wx6.heap.size := Nat.lt_of_lt_of_le (by first | assumption | (simp [go_sem]; done) | (simp [go_sem]; omega)) hb6.size
  have hz6_1 : wx3.heap.size < wx6.heap.size := Nat.lt_of_lt_of_le (by first | assumption | (simp [go_sem]; done) | (simp [go_sem]; omega)) hb6.size
  have k6_0 : wx6.cell? ⟨w.heap.size, 0, none⟩ = some (.int .i64 h) := keep_cell hb6 (by first | assumption | (simp [go_sem, *]; done))
  have k6_1 : wx6.cell? ⟨w.heap.size, 1, none⟩ = some (.int .u64 l) := keep_cell hb6 (by first | assumption | (simp [go_sem, *]; done))
  have k6_2 : wx6.cell? ⟨wx3.heap.size, 0, none⟩ = some (.int .i64 a2) := keep_cell hb6 (by first | assumption | (simp [go_sem, *]; done))
  have k6_3 : wx6.cell? ⟨wx3.heap.size, 1, none⟩ = some (.int .u64 b2) := keep_cell hb6 (by first | assumption | (simp [go_sem, *]; done))
  have f6_0 : wx6.frozen? ⟨w.heap.size, 0, none⟩ = false := keep_free hb6 (by first | assumption | (simp [go_sem]; done) | (simp [go_sem]; omega)) (by first | assumption | (simp [go_sem, *]; done))
  have f6_1 : wx6.frozen? ⟨w.heap.size, 1, none⟩ = false := keep_free hb6 (by first | assumption | (simp [go_sem]; done) | (simp [go_sem]; omega)) (by first | assumption | (simp [go_sem, *]; done))
  have f6_2 : wx6.frozen? ⟨wx3.heap.size, 0, none⟩ = false := keep_free hb6 (by first | assumption | (simp [go_sem]; done) | (simp [go_sem]; omega)) (by first | assumption | (simp [go_sem, *]; done))
  have f6_3 : wx6.frozen? ⟨wx3.heap.size, 1, none⟩ = false := keep_free hb6 (by first | assumption | (simp [go_sem]; done) | (simp [go_sem]; omega)) (by first | assumption | (simp [go_sem, *]; done))
  have HA5 := Lib.hid hat5
  clear hat5
  go_wp2_with fail
  refine (HAD.out _ a4 a5 b4 b5 HA4.out HA5.out).mono ?_
  rintro e wx7 ⟨rfl, hb7⟩
  have hB7 : Below w.heap.size w wx7 := by (repeat' (first | (with_reducible exact Below.refl _ _) | (with_reducible assumption) | (with_reducible refine Below.drew ?_) | (with_reducible refine Below.setCell ?_ ?_ _) | (with_reducible refine bnext ?_ (by assumption)) | (with_reducible refine Below.alloc ?_ ?_ _) | go_size))
  have hS7 : w.heap.size ≤ wx7.heap.size := hB7.size
  have hz7_0 : w.heap.size < wx7.heap.size := Nat.lt_of_lt_of_le (by first | assumption | (simp [go_sem]; done) | (simp [go_sem]; omega)) hb7.size
  have hz7_1 : wx3.heap.size < wx7.heap.size := Nat.lt_of_lt_of_le (by first | assumption | (simp [go_sem]; done) | (simp [go_sem]; omega)) hb7.size
  have k7_0 : wx7.cell? ⟨w.heap.size, 0, none⟩ = some (.int .i64 h) := keep_cell hb7 (by first | assumption | (simp [go_sem, *]; done))
  have k7_1 : wx7.cell? ⟨w.heap.size, 1, none⟩ = some (.int .u64 l) := keep_cell hb7 (by first | assumption | (simp [go_sem, *]; done))
  have k7_2 : wx7.cell? ⟨wx3.heap.size, 0, none⟩ = some (.int .i64 a2) := keep_cell hb7 (by first | assumption | (simp [go_sem, *]; done))
  have k7_3 : wx7.cell? ⟨wx3.heap.size, 1, none⟩ = some (.int .u64 b2) := keep_cell hb7 (by first | assumption | (simp [go_sem, *]; done))
  have f7_0 : wx7.frozen? ⟨w.heap.size, 0, none⟩ = false := keep_free hb7 (by first | assumption | (simp [go_sem]; done) | (simp [go_sem]; omega)) (by first | assumption | (simp [go_sem, *]; done))
  have f7_1 : wx7.frozen? ⟨w.heap.size, 1, none⟩ = false := keep_free hb7 (by first | assumption | (simp [go_sem]; done) | (simp [go_sem]; omega)) (by first | assumption | (simp [go_sem, *]; done))
  have f7_2 : wx7.frozen? ⟨wx3.heap.size, 0, none⟩ = false := keep_free hb7 (by first | assumption | (simp [go_sem]; done) | (simp [go_sem]; omega)) (by first | assumption | (simp [go_sem, *]; done))
  have f7_3 : wx7.frozen? ⟨wx3.heap.size, 1, none⟩ = false := keep_free hb7 (by first | assumption | (simp [go_sem]; done) | (simp [go_sem]; omega)) (by first | assumption | (simp [go_sem, *]; done))
  go_wp2
  go_ret
  exact ⟨rfl, by (repeat' (first | (with_reducible exact Below.refl _ _) | (with_reducible assumption) | (with_reducible refine Below.drew ?_) | (with_reducible refine Below.setCell ?_ ?_ _) | (with_reducible refine bnext ?_ (by assumption)) | (with_reducible refine Below.alloc ?_ ?_ _) | go_size))⟩
set_option maxHeartbeats 1600000 in
theorem rests_big_n (h : Int) (l : Nat) (a c : Int) (q r : Int) (w : World)
    (hc : (c == 0) = false) (hmd : ∀ w, Calls Try.prog 27 #[.int .i64 a, .int .i64 c, .int .i64 c] w fun e w' => e = .returned (.tuple #[.int .i64 a, .int .i64 0]) ∧ Below w.heap.size w w')
    (hd : ∀ w, Calls Try.prog 25 #[.agg #[.int .i64 h, .int .u64 l], .int .i64 c] w (RetD q r 0 w))
    (hi : ∀ w h l, At q h l → Calls Try.prog 19 #[.agg #[.int .i64 h, .int .u64 l]] w fun e w' => e = .returned (.tuple #[.int .i64 0, .int .i64 20]) ∧ Below w.heap.size w w')
    (cs : decide (c < 0) = true) (cp : decide (0 < c) = false) (rz : (r != 0) = true) (rn : decide (r < 0) = true) (rc : decide (c ≤ r) = true) (rc2 : decide (r ≤ c) = false) : Calls Try.prog 7 #[.agg #[.int .i64 h, .int .u64 l], .int .i64 a, .int .i64 c] w fun e w' => e = .returned (.bool true) ∧ Below w.heap.size w w' := by
  have HMD := Lib.hid hmd
  clear hmd
  have HD := Lib.hid hd
  clear hd
  have HI := Lib.hid hi
  clear hi
  go_enter Try.func7, Try.ntmps7
  go_wp2_with fail
  refine (alive_any _).mono ?_
  rintro e wx1 ⟨rfl, hb1⟩
  have hB1 : Below w.heap.size w wx1 := by (repeat' (first | (with_reducible exact Below.refl _ _) | (with_reducible assumption) | (with_reducible refine Below.drew ?_) | (with_reducible refine Below.setCell ?_ ?_ _) | (with_reducible refine bnext ?_ (by assumption)) | (with_reducible refine Below.alloc ?_ ?_ _) | go_size))
  have hS1 : w.heap.size ≤ wx1.heap.size := hB1.size
  have hz1_0 : w.heap.size < wx1.heap.size := Nat.lt_of_lt_of_le (by first | assumption | (simp [go_sem]; done) | (simp [go_sem]; omega)) hb1.size
  have k1_0 : wx1.cell? ⟨w.heap.size, 0, none⟩ = some (.int .i64 h) := keep_cell hb1 (by first | assumption | (simp [go_sem, *]; done))
  have k1_1 : wx1.cell? ⟨w.heap.size, 1, none⟩ = some (.int .u64 l) := keep_cell hb1 (by first | assumption | (simp [go_sem, *]; done))
  have f1_0 : wx1.frozen? ⟨w.heap.size, 0, none⟩ = false := keep_free hb1 (by first | assumption | (simp [go_sem]; done) | (simp [go_sem]; omega)) (by first | assumption | (simp [go_sem, *]; done))
  have f1_1 : wx1.frozen? ⟨w.heap.size, 1, none⟩ = false := keep_free hb1 (by first | assumption | (simp [go_sem]; done) | (simp [go_sem]; omega)) (by first | assumption | (simp [go_sem, *]; done))
  go_wp2_with fail
  refine (HMD.out _).mono ?_
  rintro e wx2 ⟨rfl, hb2⟩
  have hB2 : Below w.heap.size w wx2 := by (repeat' (first | (with_reducible exact Below.refl _ _) | (with_reducible assumption) | (with_reducible refine Below.drew ?_) | (with_reducible refine Below.setCell ?_ ?_ _) | (with_reducible refine bnext ?_ (by assumption)) | (with_reducible refine Below.alloc ?_ ?_ _) | go_size))
  have hS2 : w.heap.size ≤ wx2.heap.size := hB2.size
  have hz2_0 : w.heap.size < wx2.heap.size := Nat.lt_of_lt_of_le (by first | assumption | (simp [go_sem]; done) | (simp [go_sem]; omega)) hb2.size
  have k2_0 : wx2.cell? ⟨w.heap.size, 0, none⟩ = some (.int .i64 h) := keep_cell hb2 (by first | assumption | (simp [go_sem, *]; done))
  have k2_1 : wx2.cell? ⟨w.heap.size, 1, none⟩ = some (.int .u64 l) := keep_cell hb2 (by first | assumption | (simp [go_sem, *]; done))
  have f2_0 : wx2.frozen? ⟨w.heap.size, 0, none⟩ = false := keep_free hb2 (by first | assumption | (simp [go_sem]; done) | (simp [go_sem]; omega)) (by first | assumption | (simp [go_sem, *]; done))
  have f2_1 : wx2.frozen? ⟨w.heap.size, 1, none⟩ = false := keep_free hb2 (by first | assumption | (simp [go_sem]; done) | (simp [go_sem]; omega)) (by first | assumption | (simp [go_sem, *]; done))
  go_wp2_with fail
  refine (HD.out _).mono ?_
  rintro e wx3 ⟨a2, b2, rfl, hat2, hb3⟩
  have hB3 : Below w.heap.size w wx3 := by (repeat' (first | (with_reducible exact Below.refl _ _) | (with_reducible assumption) | (with_reducible refine Below.drew ?_) | (with_reducible refine Below.setCell ?_ ?_ _) | (with_reducible refine bnext ?_ (by assumption)) | (with_reducible refine Below.alloc ?_ ?_ _) | go_size))
  have hS3 : w.heap.size ≤ wx3.heap.size := hB3.size
  have hz3_0 : w.heap.size < wx3.heap.size := Nat.lt_of_lt_of_le (by first | assumption | (simp [go_sem]; done) | (simp [go_sem]; omega)) hb3.size
  have k3_0 : wx3.cell? ⟨w.heap.size, 0, none⟩ = some (.int .i64 h) := keep_cell hb3 (by first | assumption | (simp [go_sem, *]; done))
  have k3_1 : wx3.cell? ⟨w.heap.size, 1, none⟩ = some (.int .u64 l) := keep_cell hb3 (by first | assumption | (simp [go_sem, *]; done))
  have f3_0 : wx3.frozen? ⟨w.heap.size, 0, none⟩ = false := keep_free hb3 (by first | assumption | (simp [go_sem]; done) | (simp [go_sem]; omega)) (by first | assumption | (simp [go_sem, *]; done))
  have f3_1 : wx3.frozen? ⟨w.heap.size, 1, none⟩ = false := keep_free hb3 (by first | assumption | (simp [go_sem]; done) | (simp [go_sem]; omega)) (by first | assumption | (simp [go_sem, *]; done))
  have HA2 := Lib.hid hat2
  clear hat2
  go_wp2_with fail
  refine (HI.out _ a2 b2 HA2.out).mono ?_
  rintro e wx4 ⟨rfl, hb4⟩
  have hB4 : Below w.heap.size w wx4 := by (repeat' (first | (with_reducible exact Below.refl _ _) | (with_reducible assumption) | (with_reducible refine Below.drew ?_) | (with_reducible refine Below.setCell ?_ ?_ _) | (with_reducible refine bnext ?_ (by assumption)) | (with_reducible refine Below.alloc ?_ ?_ _) | go_size))
  have hS4 : w.heap.size ≤ wx4.heap.size := hB4.size
  have hz4_0 : w.heap.size < wx4.heap.size := Nat.lt_of_lt_of_le (by first | assumption | (simp [go_sem]; done) | (simp [go_sem]; omega)) hb4.size
  have hz4_1 : wx3.heap.size < wx4.heap.size := Nat.lt_of_lt_of_le (by first | assumption | (simp [go_sem]; done) | (simp [go_sem]; omega)) hb4.size
  have k4_0 : wx4.cell? ⟨w.heap.size, 0, none⟩ = some (.int .i64 h) := keep_cell hb4 (by first | assumption | (simp [go_sem, *]; done))
  have k4_1 : wx4.cell? ⟨w.heap.size, 1, none⟩ = some (.int .u64 l) := keep_cell hb4 (by first | assumption | (simp [go_sem, *]; done))
  have k4_2 : wx4.cell? ⟨wx3.heap.size, 0, none⟩ = some (.int .i64 a2) := keep_cell hb4 (by first | assumption | (simp [go_sem, *]; done))
  have k4_3 : wx4.cell? ⟨wx3.heap.size, 1, none⟩ = some (.int .u64 b2) := keep_cell hb4 (by first | assumption | (simp [go_sem, *]; done))
  have f4_0 : wx4.frozen? ⟨w.heap.size, 0, none⟩ = false := keep_free hb4 (by first | assumption | (simp [go_sem]; done) | (simp [go_sem]; omega)) (by first | assumption | (simp [go_sem, *]; done))
  have f4_1 : wx4.frozen? ⟨w.heap.size, 1, none⟩ = false := keep_free hb4 (by first | assumption | (simp [go_sem]; done) | (simp [go_sem]; omega)) (by first | assumption | (simp [go_sem, *]; done))
  have f4_2 : wx4.frozen? ⟨wx3.heap.size, 0, none⟩ = false := keep_free hb4 (by first | assumption | (simp [go_sem]; done) | (simp [go_sem]; omega)) (by first | assumption | (simp [go_sem, *]; done))
  have f4_3 : wx4.frozen? ⟨wx3.heap.size, 1, none⟩ = false := keep_free hb4 (by first | assumption | (simp [go_sem]; done) | (simp [go_sem]; omega)) (by first | assumption | (simp [go_sem, *]; done))
  go_wp2
  go_ret
  exact ⟨rfl, by (repeat' (first | (with_reducible exact Below.refl _ _) | (with_reducible assumption) | (with_reducible refine Below.drew ?_) | (with_reducible refine Below.setCell ?_ ?_ _) | (with_reducible refine bnext ?_ (by assumption)) | (with_reducible refine Below.alloc ?_ ?_ _) | go_size))⟩
set_option maxHeartbeats 1600000 in
theorem rests_full_n (h : Int) (l : Nat) (a c : Int) (q r p : Int) (w : World)
    (hc : (c == 0) = false) (hmd : ∀ w, Calls Try.prog 27 #[.int .i64 a, .int .i64 c, .int .i64 c] w fun e w' => e = .returned (.tuple #[.int .i64 a, .int .i64 0]) ∧ Below w.heap.size w w')
    (hd : ∀ w, Calls Try.prog 25 #[.agg #[.int .i64 h, .int .u64 l], .int .i64 c] w (RetD q r 0 w))
    (hi : ∀ w h l, At q h l → Calls Try.prog 19 #[.agg #[.int .i64 h, .int .u64 l]] w fun e w' => e = .returned (.tuple #[.int .i64 q, .int .i64 0]) ∧ Below w.heap.size w w')
    (hm : ∀ w, Calls Try.prog 21 #[.int .i64 q, .int .i64 c] w (RetW p w)) (ho : ∀ w, Calls Try.prog 22 #[.int .i64 r] w (RetW r w))
    (had : ∀ w h1 h2 l1 l2, At p h1 l1 → At r h2 l2 → Calls Try.prog 13 #[.agg #[.int .i64 h1, .int .u64 l1], .agg #[.int .i64 h2, .int .u64 l2]] w fun e w' => e = .returned (.tuple #[.agg #[.int .i64 h, .int .u64 l], .int .i64 0]) ∧ Below w.heap.size w w')
    (cs : decide (c < 0) = true) (cp : decide (0 < c) = false) (rz : (r != 0) = true) (rn : decide (r < 0) = true) (rc : decide (c ≤ r) = true) (rc2 : decide (r ≤ c) = false) : Calls Try.prog 7 #[.agg #[.int .i64 h, .int .u64 l], .int .i64 a, .int .i64 c] w fun e w' => e = .returned (.bool true) ∧ Below w.heap.size w w' := by
  have HMD := Lib.hid hmd
  clear hmd
  have HD := Lib.hid hd
  clear hd
  have HI := Lib.hid hi
  clear hi
  have HM := Lib.hid hm
  clear hm
  have HO := Lib.hid ho
  clear ho
  have HAD := Lib.hid had
  clear had
  go_enter Try.func7, Try.ntmps7
  go_wp2_with fail
  refine (alive_any _).mono ?_
  rintro e wx1 ⟨rfl, hb1⟩
  have hB1 : Below w.heap.size w wx1 := by (repeat' (first | (with_reducible exact Below.refl _ _) | (with_reducible assumption) | (with_reducible refine Below.drew ?_) | (with_reducible refine Below.setCell ?_ ?_ _) | (with_reducible refine bnext ?_ (by assumption)) | (with_reducible refine Below.alloc ?_ ?_ _) | go_size))
  have hS1 : w.heap.size ≤ wx1.heap.size := hB1.size
  have hz1_0 : w.heap.size < wx1.heap.size := Nat.lt_of_lt_of_le (by first | assumption | (simp [go_sem]; done) | (simp [go_sem]; omega)) hb1.size
  have k1_0 : wx1.cell? ⟨w.heap.size, 0, none⟩ = some (.int .i64 h) := keep_cell hb1 (by first | assumption | (simp [go_sem, *]; done))
  have k1_1 : wx1.cell? ⟨w.heap.size, 1, none⟩ = some (.int .u64 l) := keep_cell hb1 (by first | assumption | (simp [go_sem, *]; done))
  have f1_0 : wx1.frozen? ⟨w.heap.size, 0, none⟩ = false := keep_free hb1 (by first | assumption | (simp [go_sem]; done) | (simp [go_sem]; omega)) (by first | assumption | (simp [go_sem, *]; done))
  have f1_1 : wx1.frozen? ⟨w.heap.size, 1, none⟩ = false := keep_free hb1 (by first | assumption | (simp [go_sem]; done) | (simp [go_sem]; omega)) (by first | assumption | (simp [go_sem, *]; done))
  go_wp2_with fail
  refine (HMD.out _).mono ?_
  rintro e wx2 ⟨rfl, hb2⟩
  have hB2 : Below w.heap.size w wx2 := by (repeat' (first | (with_reducible exact Below.refl _ _) | (with_reducible assumption) | (with_reducible refine Below.drew ?_) | (with_reducible refine Below.setCell ?_ ?_ _) | (with_reducible refine bnext ?_ (by assumption)) | (with_reducible refine Below.alloc ?_ ?_ _) | go_size))
  have hS2 : w.heap.size ≤ wx2.heap.size := hB2.size
  have hz2_0 : w.heap.size < wx2.heap.size := Nat.lt_of_lt_of_le (by first | assumption | (simp [go_sem]; done) | (simp [go_sem]; omega)) hb2.size
  have k2_0 : wx2.cell? ⟨w.heap.size, 0, none⟩ = some (.int .i64 h) := keep_cell hb2 (by first | assumption | (simp [go_sem, *]; done))
  have k2_1 : wx2.cell? ⟨w.heap.size, 1, none⟩ = some (.int .u64 l) := keep_cell hb2 (by first | assumption | (simp [go_sem, *]; done))
  have f2_0 : wx2.frozen? ⟨w.heap.size, 0, none⟩ = false := keep_free hb2 (by first | assumption | (simp [go_sem]; done) | (simp [go_sem]; omega)) (by first | assumption | (simp [go_sem, *]; done))
  have f2_1 : wx2.frozen? ⟨w.heap.size, 1, none⟩ = false := keep_free hb2 (by first | assumption | (simp [go_sem]; done) | (simp [go_sem]; omega)) (by first | assumption | (simp [go_sem, *]; done))
  go_wp2_with fail
  refine (HD.out _).mono ?_
  rintro e wx3 ⟨a2, b2, rfl, hat2, hb3⟩
  have hB3 : Below w.heap.size w wx3 := by (repeat' (first | (with_reducible exact Below.refl _ _) | (with_reducible assumption) | (with_reducible refine Below.drew ?_) | (with_reducible refine Below.setCell ?_ ?_ _) | (with_reducible refine bnext ?_ (by assumption)) | (with_reducible refine Below.alloc ?_ ?_ _) | go_size))
  have hS3 : w.heap.size ≤ wx3.heap.size := hB3.size
  have hz3_0 : w.heap.size < wx3.heap.size := Nat.lt_of_lt_of_le (by first | assumption | (simp [go_sem]; done) | (simp [go_sem]; omega)) hb3.size
  have k3_0 : wx3.cell? ⟨w.heap.size, 0, none⟩ = some (.int .i64 h) := keep_cell hb3 (by first | assumption | (simp [go_sem, *]; done))
  have k3_1 : wx3.cell? ⟨w.heap.size, 1, none⟩ = some (.int .u64 l) := keep_cell hb3 (by first | assumption | (simp [go_sem, *]; done))
  have f3_0 : wx3.frozen? ⟨w.heap.size, 0, none⟩ = false := keep_free hb3 (by first | assumption | (simp [go_sem]; done) | (simp [go_sem]; omega)) (by first | assumption | (simp [go_sem, *]; done))
  have f3_1 : wx3.frozen? ⟨w.heap.size, 1, none⟩ = false := keep_free hb3 (by first | assumption | (simp [go_sem]; done) | (simp [go_sem]; omega)) (by first | assumption | (simp [go_sem, *]; done))
  have HA2 := Lib.hid hat2
  clear hat2
  go_wp2_with fail
  refine (HI.out _ a2 b2 HA2.out).mono ?_
  rintro e wx4 ⟨rfl, hb4⟩
  have hB4 : Below w.heap.size w wx4 := by (repeat' (first | (with_reducible exact Below.refl _ _) | (with_reducible assumption) | (with_reducible refine Below.drew ?_) | (with_reducible refine Below.setCell ?_ ?_ _) | (with_reducible refine bnext ?_ (by assumption)) | (with_reducible refine Below.alloc ?_ ?_ _) | go_size))
  have hS4 : w.heap.size ≤ wx4.heap.size := hB4.size
  have hz4_0 : w.heap.size < wx4.heap.size := Nat.lt_of_lt_of_le (by first | assumption | (simp [go_sem]; done) | (simp [go_sem]; omega)) hb4.size
  have hz4_1 : wx3.heap.size < wx4.heap.size := Nat.lt_of_lt_of_le (by first | assumption | (simp [go_sem]; done) | (simp [go_sem]; omega)) hb4.size
  have k4_0 : wx4.cell? ⟨w.heap.size, 0, none⟩ = some (.int .i64 h) := keep_cell hb4 (by first | assumption | (simp [go_sem, *]; done))
  have k4_1 : wx4.cell? ⟨w.heap.size, 1, none⟩ = some (.int .u64 l) := keep_cell hb4 (by first | assumption | (simp [go_sem, *]; done))
  have k4_2 : wx4.cell? ⟨wx3.heap.size, 0, none⟩ = some (.int .i64 a2) := keep_cell hb4 (by first | assumption | (simp [go_sem, *]; done))
  have k4_3 : wx4.cell? ⟨wx3.heap.size, 1, none⟩ = some (.int .u64 b2) := keep_cell hb4 (by first | assumption | (simp [go_sem, *]; done))
  have f4_0 : wx4.frozen? ⟨w.heap.size, 0, none⟩ = false := keep_free hb4 (by first | assumption | (simp [go_sem]; done) | (simp [go_sem]; omega)) (by first | assumption | (simp [go_sem, *]; done))
  have f4_1 : wx4.frozen? ⟨w.heap.size, 1, none⟩ = false := keep_free hb4 (by first | assumption | (simp [go_sem]; done) | (simp [go_sem]; omega)) (by first | assumption | (simp [go_sem, *]; done))
  have f4_2 : wx4.frozen? ⟨wx3.heap.size, 0, none⟩ = false := keep_free hb4 (by first | assumption | (simp [go_sem]; done) | (simp [go_sem]; omega)) (by first | assumption | (simp [go_sem, *]; done))
  have f4_3 : wx4.frozen? ⟨wx3.heap.size, 1, none⟩ = false := keep_free hb4 (by first | assumption | (simp [go_sem]; done) | (simp [go_sem]; omega)) (by first | assumption | (simp [go_sem, *]; done))
  go_wp2_with fail
  refine (HM.out _).mono ?_
  rintro e wx5 ⟨a4, b4, rfl, hat4, hb5⟩
  have hB5 : Below w.heap.size w wx5 := by (repeat' (first | (with_reducible exact Below.refl _ _) | (with_reducible assumption) | (with_reducible refine Below.drew ?_) | (with_reducible refine Below.setCell ?_ ?_ _) | (with_reducible refine bnext ?_ (by assumption)) | (with_reducible refine Below.alloc ?_ ?_ _) | go_size))
  have hS5 : w.heap.size ≤ wx5.heap.size := hB5.size
  have hz5_0 : w.heap.size < wx5.heap.size := Nat.lt_of_lt_of_le (by first | assumption | (simp [go_sem]; done) | (simp [go_sem]; omega)) hb5.size
  have hz5_1 : wx3.heap.size < wx5.heap.size := Nat.lt_of_lt_of_le (by first | assumption | (simp [go_sem]; done) | (simp [go_sem]; omega)) hb5.size
  have k5_0 : wx5.cell? ⟨w.heap.size, 0, none⟩ = some (.int .i64 h) := keep_cell hb5 (by first | assumption | (simp [go_sem, *]; done))
  have k5_1 : wx5.cell? ⟨w.heap.size, 1, none⟩ = some (.int .u64 l) := keep_cell hb5 (by first | assumption | (simp [go_sem, *]; done))
  have k5_2 : wx5.cell? ⟨wx3.heap.size, 0, none⟩ = some (.int .i64 a2) := keep_cell hb5 (by first | assumption | (simp [go_sem, *]; done))
  have k5_3 : wx5.cell? ⟨wx3.heap.size, 1, none⟩ = some (.int .u64 b2) := keep_cell hb5 (by first | assumption | (simp [go_sem, *]; done))
  have f5_0 : wx5.frozen? ⟨w.heap.size, 0, none⟩ = false := keep_free hb5 (by first | assumption | (simp [go_sem]; done) | (simp [go_sem]; omega)) (by first | assumption | (simp [go_sem, *]; done))
  have f5_1 : wx5.frozen? ⟨w.heap.size, 1, none⟩ = false := keep_free hb5 (by first | assumption | (simp [go_sem]; done) | (simp [go_sem]; omega)) (by first | assumption | (simp [go_sem, *]; done))
  have f5_2 : wx5.frozen? ⟨wx3.heap.size, 0, none⟩ = false := keep_free hb5 (by first | assumption | (simp [go_sem]; done) | (simp [go_sem]; omega)) (by first | assumption | (simp [go_sem, *]; done))
  have f5_3 : wx5.frozen? ⟨wx3.heap.size, 1, none⟩ = false := keep_free hb5 (by first | assumption | (simp [go_sem]; done) | (simp [go_sem]; omega)) (by first | assumption | (simp [go_sem, *]; done))
  have HA4 := Lib.hid hat4
  clear hat4
  go_wp2_with fail
  refine (HO.out _).mono ?_
  rintro e wx6 ⟨a5, b5, rfl, hat5, hb6⟩
  have hB6 : Below w.heap.size w wx6 := by (repeat' (first | (with_reducible exact Below.refl _ _) | (with_reducible assumption) | (with_reducible refine Below.drew ?_) | (with_reducible refine Below.setCell ?_ ?_ _) | (with_reducible refine bnext ?_ (by assumption)) | (with_reducible refine Below.alloc ?_ ?_ _) | go_size))
  have hS6 : w.heap.size ≤ wx6.heap.size := hB6.size
  have hz6_0 : w.heap.size < wx6.heap.size := Nat.lt_of_lt_of_le (by first | assumption | (simp [go_sem]; done) | (simp [go_sem]; omega)) hb6.size
  have hz6_1 : wx3.heap.size < wx6.heap.size := Nat.lt_of_lt_of_le (by first | assumption | (simp [go_sem]; done) | (simp [go_sem]; omega)) hb6.size
  have k6_0 : wx6.cell? ⟨w.heap.size, 0, none⟩ = some (.int .i64 h) := keep_cell hb6 (by first | assumption | (simp [go_sem, *]; done))
  have k6_1 : wx6.cell? ⟨w.heap.size, 1, none⟩ = some (.int .u64 l) := keep_cell hb6 (by first | assumption | (simp [go_sem, *]; done))
  have k6_2 : wx6.cell? ⟨wx3.heap.size, 0, none⟩ = some (.int .i64 a2) := keep_cell hb6 (by first | assumption | (simp [go_sem, *]; done))
  have k6_3 : wx6.cell? ⟨wx3.heap.size, 1, none⟩ = some (.int .u64 b2) := keep_cell hb6 (by first | assumption | (simp [go_sem, *]; done))
  have f6_0 : wx6.frozen? ⟨w.heap.size, 0, none⟩ = false := keep_free hb6 (by first | assumption | (simp [go_sem]; done) | (simp [go_sem]; omega)) (by first | assumption | (simp [go_sem, *]; done))
  have f6_1 : wx6.frozen? ⟨w.heap.size, 1, none⟩ = false := keep_free hb6 (by first | assumption | (simp [go_sem]; done) | (simp [go_sem]; omega)) (by first | assumption | (simp [go_sem, *]; done))
  have f6_2 : wx6.frozen? ⟨wx3.heap.size, 0, none⟩ = false := keep_free hb6 (by first | assumption | (simp [go_sem]; done) | (simp [go_sem]; omega)) (by first | assumption | (simp [go_sem, *]; done))
  have f6_3 : wx6.frozen? ⟨wx3.heap.size, 1, none⟩ = false := keep_free hb6 (by first | assumption | (simp [go_sem]; done) | (simp [go_sem]; omega)) (by first | assumption | (simp [go_sem, *]; done))
  have HA5 := Lib.hid hat5
  clear hat5
  go_wp2_with fail
  refine (HAD.out _ a4 a5 b4 b5 HA4.out HA5.out).mono ?_
  rintro e wx7 ⟨rfl, hb7⟩
  have hB7 : Below w.heap.size w wx7 := by (repeat' (first | (with_reducible exact Below.refl _ _) | (with_reducible assumption) | (with_reducible refine Below.drew ?_) | (with_reducible refine Below.setCell ?_ ?_ _) | (with_reducible refine bnext ?_ (by assumption)) | (with_reducible refine Below.alloc ?_ ?_ _) | go_size))
  have hS7 : w.heap.size ≤ wx7.heap.size := hB7.size
  have hz7_0 : w.heap.size < wx7.heap.size := Nat.lt_of_lt_of_le (by first | assumption | (simp [go_sem]; done) | (simp [go_sem]; omega)) hb7.size
  have hz7_1 : wx3.heap.size < wx7.heap.size := Nat.lt_of_lt_of_le (by first | assumption | (simp [go_sem]; done) | (simp [go_sem]; omega)) hb7.size
  have k7_0 : wx7.cell? ⟨w.heap.size, 0, none⟩ = some (.int .i64 h) := keep_cell hb7 (by first | assumption | (simp [go_sem, *]; done))
  have k7_1 : wx7.cell? ⟨w.heap.size, 1, none⟩ = some (.int .u64 l) := keep_cell hb7 (by first | assumption | (simp [go_sem, *]; done))
  have k7_2 : wx7.cell? ⟨wx3.heap.size, 0, none⟩ = some (.int .i64 a2) := keep_cell hb7 (by first | assumption | (simp [go_sem, *]; done))
  have k7_3 : wx7.cell? ⟨wx3.heap.size, 1, none⟩ = some (.int .u64 b2) := keep_cell hb7 (by first | assumption | (simp [go_sem, *]; done))
  have f7_0 : wx7.frozen? ⟨w.heap.size, 0, none⟩ = false := keep_free hb7 (by first | assumption | (simp [go_sem]; done) | (simp [go_sem]; omega)) (by first | assumption | (simp [go_sem, *]; done))
  have f7_1 : wx7.frozen? ⟨w.heap.size, 1, none⟩ = false := keep_free hb7 (by first | assumption | (simp [go_sem]; done) | (simp [go_sem]; omega)) (by first | assumption | (simp [go_sem, *]; done))
  have f7_2 : wx7.frozen? ⟨wx3.heap.size, 0, none⟩ = false := keep_free hb7 (by first | assumption | (simp [go_sem]; done) | (simp [go_sem]; omega)) (by first | assumption | (simp [go_sem, *]; done))
  have f7_3 : wx7.frozen? ⟨wx3.heap.size, 1, none⟩ = false := keep_free hb7 (by first | assumption | (simp [go_sem]; done) | (simp [go_sem]; omega)) (by first | assumption | (simp [go_sem, *]; done))
  go_wp2
  go_ret
  exact ⟨rfl, by (repeat' (first | (with_reducible exact Below.refl _ _) | (with_reducible assumption) | (with_reducible refine Below.drew ?_) | (with_reducible refine Below.setCell ?_ ?_ _) | (with_reducible refine bnext ?_ (by assumption)) | (with_reducible refine Below.alloc ?_ ?_ _) | go_size))⟩
set_option maxHeartbeats 1600000 in
theorem rests_big_nz (h : Int) (l : Nat) (a c : Int) (q r : Int) (w : World)
    (hc : (c == 0) = false) (hmd : ∀ w, Calls Try.prog 27 #[.int .i64 a, .int .i64 c, .int .i64 c] w fun e w' => e = .returned (.tuple #[.int .i64 a, .int .i64 0]) ∧ Below w.heap.size w w')
    (hd : ∀ w, Calls Try.prog 25 #[.agg #[.int .i64 h, .int .u64 l], .int .i64 c] w (RetD q r 0 w))
    (hi : ∀ w h l, At q h l → Calls Try.prog 19 #[.agg #[.int .i64 h, .int .u64 l]] w fun e w' => e = .returned (.tuple #[.int .i64 0, .int .i64 20]) ∧ Below w.heap.size w w')
    (cs : decide (c < 0) = true) (cp : decide (0 < c) = false) (rz : (r != 0) = false) (rn : decide (r < 0) = false) (rc : decide (c ≤ r) = true) (rc2 : decide (r ≤ c) = false) : Calls Try.prog 7 #[.agg #[.int .i64 h, .int .u64 l], .int .i64 a, .int .i64 c] w fun e w' => e = .returned (.bool true) ∧ Below w.heap.size w w' := by
  have HMD := Lib.hid hmd
  clear hmd
  have HD := Lib.hid hd
  clear hd
  have HI := Lib.hid hi
  clear hi
  go_enter Try.func7, Try.ntmps7
  go_wp2_with fail
  refine (alive_any _).mono ?_
  rintro e wx1 ⟨rfl, hb1⟩
  have hB1 : Below w.heap.size w wx1 := by (repeat' (first | (with_reducible exact Below.refl _ _) | (with_reducible assumption) | (with_reducible refine Below.drew ?_) | (with_reducible refine Below.setCell ?_ ?_ _) | (with_reducible refine bnext ?_ (by assumption)) | (with_reducible refine Below.alloc ?_ ?_ _) | go_size))
  have hS1 : w.heap.size ≤ wx1.heap.size := hB1.size
  have hz1_0 : w.heap.size < wx1.heap.size := Nat.lt_of_lt_of_le (by first | assumption | (simp [go_sem]; done) | (simp [go_sem]; omega)) hb1.size
  have k1_0 : wx1.cell? ⟨w.heap.size, 0, none⟩ = some (.int .i64 h) := keep_cell hb1 (by first | assumption | (simp [go_sem, *]; done))
  have k1_1 : wx1.cell? ⟨w.heap.size, 1, none⟩ = some (.int .u64 l) := keep_cell hb1 (by first | assumption | (simp [go_sem, *]; done))
  have f1_0 : wx1.frozen? ⟨w.heap.size, 0, none⟩ = false := keep_free hb1 (by first | assumption | (simp [go_sem]; done) | (simp [go_sem]; omega)) (by first | assumption | (simp [go_sem, *]; done))
  have f1_1 : wx1.frozen? ⟨w.heap.size, 1, none⟩ = false := keep_free hb1 (by first | assumption | (simp [go_sem]; done) | (simp [go_sem]; omega)) (by first | assumption | (simp [go_sem, *]; done))
  go_wp2_with fail
  refine (HMD.out _).mono ?_
  rintro e wx2 ⟨rfl, hb2⟩
  have hB2 : Below w.heap.size w wx2 := by (repeat' (first | (with_reducible exact Below.refl _ _) | (with_reducible assumption) | (with_reducible refine Below.drew ?_) | (with_reducible refine Below.setCell ?_ ?_ _) | (with_reducible refine bnext ?_ (by assumption)) | (with_reducible refine Below.alloc ?_ ?_ _) | go_size))
  have hS2 : w.heap.size ≤ wx2.heap.size := hB2.size
  have hz2_0 : w.heap.size < wx2.heap.size := Nat.lt_of_lt_of_le (by first | assumption | (simp [go_sem]; done) | (simp [go_sem]; omega)) hb2.size
  have k2_0 : wx2.cell? ⟨w.heap.size, 0, none⟩ = some (.int .i64 h) := keep_cell hb2 (by first | assumption | (simp [go_sem, *]; done))
  have k2_1 : wx2.cell? ⟨w.heap.size, 1, none⟩ = some (.int .u64 l) := keep_cell hb2 (by first | assumption | (simp [go_sem, *]; done))
  have f2_0 : wx2.frozen? ⟨w.heap.size, 0, none⟩ = false := keep_free hb2 (by first | assumption | (simp [go_sem]; done) | (simp [go_sem]; omega)) (by first | assumption | (simp [go_sem, *]; done))
  have f2_1 : wx2.frozen? ⟨w.heap.size, 1, none⟩ = false := keep_free hb2 (by first | assumption | (simp [go_sem]; done) | (simp [go_sem]; omega)) (by first | assumption | (simp [go_sem, *]; done))
  go_wp2_with fail
  refine (HD.out _).mono ?_
  rintro e wx3 ⟨a2, b2, rfl, hat2, hb3⟩
  have hB3 : Below w.heap.size w wx3 := by (repeat' (first | (with_reducible exact Below.refl _ _) | (with_reducible assumption) | (with_reducible refine Below.drew ?_) | (with_reducible refine Below.setCell ?_ ?_ _) | (with_reducible refine bnext ?_ (by assumption)) | (with_reducible refine Below.alloc ?_ ?_ _) | go_size))
  have hS3 : w.heap.size ≤ wx3.heap.size := hB3.size
  have hz3_0 : w.heap.size < wx3.heap.size := Nat.lt_of_lt_of_le (by first | assumption | (simp [go_sem]; done) | (simp [go_sem]; omega)) hb3.size
  have k3_0 : wx3.cell? ⟨w.heap.size, 0, none⟩ = some (.int .i64 h) := keep_cell hb3 (by first | assumption | (simp [go_sem, *]; done))
  have k3_1 : wx3.cell? ⟨w.heap.size, 1, none⟩ = some (.int .u64 l) := keep_cell hb3 (by first | assumption | (simp [go_sem, *]; done))
  have f3_0 : wx3.frozen? ⟨w.heap.size, 0, none⟩ = false := keep_free hb3 (by first | assumption | (simp [go_sem]; done) | (simp [go_sem]; omega)) (by first | assumption | (simp [go_sem, *]; done))
  have f3_1 : wx3.frozen? ⟨w.heap.size, 1, none⟩ = false := keep_free hb3 (by first | assumption | (simp [go_sem]; done) | (simp [go_sem]; omega)) (by first | assumption | (simp [go_sem, *]; done))
  have HA2 := Lib.hid hat2
  clear hat2
  go_wp2_with fail
  refine (HI.out _ a2 b2 HA2.out).mono ?_
  rintro e wx4 ⟨rfl, hb4⟩
  have hB4 : Below w.heap.size w wx4 := by (repeat' (first | (with_reducible exact Below.refl _ _) | (with_reducible assumption) | (with_reducible refine Below.drew ?_) | (with_reducible refine Below.setCell ?_ ?_ _) | (with_reducible refine bnext ?_ (by assumption)) | (with_reducible refine Below.alloc ?_ ?_ _) | go_size))
  have hS4 : w.heap.size ≤ wx4.heap.size := hB4.size
  have hz4_0 : w.heap.size < wx4.heap.size := Nat.lt_of_lt_of_le (by first | assumption | (simp [go_sem]; done) | (simp [go_sem]; omega)) hb4.size
  have hz4_1 : wx3.heap.size < wx4.heap.size := Nat.lt_of_lt_of_le (by first | assumption | (simp [go_sem]; done) | (simp [go_sem]; omega)) hb4.size
  have k4_0 : wx4.cell? ⟨w.heap.size, 0, none⟩ = some (.int .i64 h) := keep_cell hb4 (by first | assumption | (simp [go_sem, *]; done))
  have k4_1 : wx4.cell? ⟨w.heap.size, 1, none⟩ = some (.int .u64 l) := keep_cell hb4 (by first | assumption | (simp [go_sem, *]; done))
  have k4_2 : wx4.cell? ⟨wx3.heap.size, 0, none⟩ = some (.int .i64 a2) := keep_cell hb4 (by first | assumption | (simp [go_sem, *]; done))
  have k4_3 : wx4.cell? ⟨wx3.heap.size, 1, none⟩ = some (.int .u64 b2) := keep_cell hb4 (by first | assumption | (simp [go_sem, *]; done))
  have f4_0 : wx4.frozen? ⟨w.heap.size, 0, none⟩ = false := keep_free hb4 (by first | assumption | (simp [go_sem]; done) | (simp [go_sem]; omega)) (by first | assumption | (simp [go_sem, *]; done))
  have f4_1 : wx4.frozen? ⟨w.heap.size, 1, none⟩ = false := keep_free hb4 (by first | assumption | (simp [go_sem]; done) | (simp [go_sem]; omega)) (by first | assumption | (simp [go_sem, *]; done))
  have f4_2 : wx4.frozen? ⟨wx3.heap.size, 0, none⟩ = false := keep_free hb4 (by first | assumption | (simp [go_sem]; done) | (simp [go_sem]; omega)) (by first | assumption | (simp [go_sem, *]; done))
  have f4_3 : wx4.frozen? ⟨wx3.heap.size, 1, none⟩ = false := keep_free hb4 (by first | assumption | (simp [go_sem]; done) | (simp [go_sem]; omega)) (by first | assumption | (simp [go_sem, *]; done))
  go_wp2
  go_ret
  exact ⟨rfl, by (repeat' (first | (with_reducible exact Below.refl _ _) | (with_reducible assumption) | (with_reducible refine Below.drew ?_) | (with_reducible refine Below.setCell ?_ ?_ _) | (with_reducible refine bnext ?_ (by assumption)) | (with_reducible refine Below.alloc ?_ ?_ _) | go_size))⟩
set_option maxHeartbeats 1600000 in
theorem rests_full_nz (h : Int) (l : Nat) (a c : Int) (q r p : Int) (w : World)
    (hc : (c == 0) = false) (hmd : ∀ w, Calls Try.prog 27 #[.int .i64 a, .int .i64 c, .int .i64 c] w fun e w' => e = .returned (.tuple #[.int .i64 a, .int .i64 0]) ∧ Below w.heap.size w w')
    (hd : ∀ w, Calls Try.prog 25 #[.agg #[.int .i64 h, .int .u64 l], .int .i64 c] w (RetD q r 0 w))
    (hi : ∀ w h l, At q h l → Calls Try.prog 19 #[.agg #[.int .i64 h, .int .u64 l]] w fun e w' => e = .returned (.tuple #[.int .i64 q, .int .i64 0]) ∧ Below w.heap.size w w')
    (hm : ∀ w, Calls Try.prog 21 #[.int .i64 q, .int .i64 c] w (RetW p w)) (ho : ∀ w, Calls Try.prog 22 #[.int .i64 r] w (RetW r w))
    (had : ∀ w h1 h2 l1 l2, At p h1 l1 → At r h2 l2 → Calls Try.prog 13 #[.agg #[.int .i64 h1, .int .u64 l1], .agg #[.int .i64 h2, .int .u64 l2]] w fun e w' => e = .returned (.tuple #[.agg #[.int .i64 h, .int .u64 l], .int .i64 0]) ∧ Below w.heap.size w w')
    (cs : decide (c < 0) = true) (cp : decide (0 < c) = false) (rz : (r != 0) = false) (rn : decide (r < 0) = false) (rc : decide (c ≤ r) = true) (rc2 : decide (r ≤ c) = false) : Calls Try.prog 7 #[.agg #[.int .i64 h, .int .u64 l], .int .i64 a, .int .i64 c] w fun e w' => e = .returned (.bool true) ∧ Below w.heap.size w w' := by
  have HMD := Lib.hid hmd
  clear hmd
  have HD := Lib.hid hd
  clear hd
  have HI := Lib.hid hi
  clear hi
  have HM := Lib.hid hm
  clear hm
  have HO := Lib.hid ho
  clear ho
  have HAD := Lib.hid had
  clear had
  go_enter Try.func7, Try.ntmps7
  go_wp2_with fail
  refine (alive_any _).mono ?_
  rintro e wx1 ⟨rfl, hb1⟩
  have hB1 : Below w.heap.size w wx1 := by (repeat' (first | (with_reducible exact Below.refl _ _) | (with_reducible assumption) | (with_reducible refine Below.drew ?_) | (with_reducible refine Below.setCell ?_ ?_ _) | (with_reducible refine bnext ?_ (by assumption)) | (with_reducible refine Below.alloc ?_ ?_ _) | go_size))
  have hS1 : w.heap.size ≤ wx1.heap.size := hB1.size
  have hz1_0 : w.heap.size < wx1.heap.size := Nat.lt_of_lt_of_le (by first | assumption | (simp [go_sem]; done) | (simp [go_sem]; omega)) hb1.size
  have k1_0 : wx1.cell? ⟨w.heap.size, 0, none⟩ = some (.int .i64 h) := keep_cell hb1 (by first | assumption | (simp [go_sem, *]; done))
  have k1_1 : wx1.cell? ⟨w.heap.size, 1, none⟩ = some (.int .u64 l) := keep_cell hb1 (by first | assumption | (simp [go_sem, *]; done))
  have f1_0 : wx1.frozen? ⟨w.heap.size, 0, none⟩ = false := keep_free hb1 (by first | assumption | (simp [go_sem]; done) | (simp [go_sem]; omega)) (by first | assumption | (simp [go_sem, *]; done))
  have f1_1 : wx1.frozen? ⟨w.heap.size, 1, none⟩ = false := keep_free hb1 (by first | assumption | (simp [go_sem]; done) | (simp [go_sem]; omega)) (by first | assumption | (simp [go_sem, *]; done))
  go_wp2_with fail
  refine (HMD.out _).mono ?_
  rintro e wx2 ⟨rfl, hb2⟩
  have hB2 : Below w.heap.size w wx2 := by (repeat' (first | (with_reducible exact Below.refl _ _) | (with_reducible assumption) | (with_reducible refine Below.drew ?_) | (with_reducible refine Below.setCell ?_ ?_ _) | (with_reducible refine bnext ?_ (by assumption)) | (with_reducible refine Below.alloc ?_ ?_ _) | go_size))
  have hS2 : w.heap.size ≤ wx2.heap.size := hB2.size
  have hz2_0 : w.heap.size < wx2.heap.size := Nat.lt_of_lt_of_le (by first | assumption | (simp [go_sem]; done) | (simp [go_sem]; omega)) hb2.size
  have k2_0 : wx2.cell? ⟨w.heap.size, 0, none⟩ = some (.int .i64 h) := keep_cell hb2 (by first | assumption | (simp [go_sem, *]; done))
  have k2_1 : wx2.cell? ⟨w.heap.size, 1, none⟩ = some (.int .u64 l) := keep_cell hb2 (by first | assumption | (simp [go_sem, *]; done))
  have f2_0 : wx2.frozen? ⟨w.heap.size, 0, none⟩ = false := keep_free hb2 (by first | assumption | (simp [go_sem]; done) | (simp [go_sem]; omega)) (by first | assumption | (simp [go_sem, *]; done))
  have f2_1 : wx2.frozen? ⟨w.heap.size, 1, none⟩ = false := keep_free hb2 (by first | assumption | (simp [go_sem]; done) | (simp [go_sem]; omega)) (by first | assumption | (simp [go_sem, *]; done))
  go_wp2_with fail
  refine (HD.out _).mono ?_
  rintro e wx3 ⟨a2, b2, rfl, hat2, hb3⟩
  have hB3 : Below w.heap.size w wx3 := by (repeat' (first | (with_reducible exact Below.refl _ _) | (with_reducible assumption) | (with_reducible refine Below.drew ?_) | (with_reducible refine Below.setCell ?_ ?_ _) | (with_reducible refine bnext ?_ (by assumption)) | (with_reducible refine Below.alloc ?_ ?_ _) | go_size))
  have hS3 : w.heap.size ≤ wx3.heap.size := hB3.size
  have hz3_0 : w.heap.size < wx3.heap.size := Nat.lt_of_lt_of_le (by first | assumption | (simp [go_sem]; done) | (simp [go_sem]; omega)) hb3.size
  have k3_0 : wx3.cell? ⟨w.heap.size, 0, none⟩ = some (.int .i64 h) := keep_cell hb3 (by first | assumption | (simp [go_sem, *]; done))
  have k3_1 : wx3.cell? ⟨w.heap.size, 1, none⟩ = some (.int .u64 l) := keep_cell hb3 (by first | assumption | (simp [go_sem, *]; done))
  have f3_0 : wx3.frozen? ⟨w.heap.size, 0, none⟩ = false := keep_free hb3 (by first | assumption | (simp [go_sem]; done) | (simp [go_sem]; omega)) (by first | assumption | (simp [go_sem, *]; done))
  have f3_1 : wx3.frozen? ⟨w.heap.size, 1, none⟩ = false := keep_free hb3 (by first | assumption | (simp [go_sem]; done) | (simp [go_sem]; omega)) (by first | assumption | (simp [go_sem, *]; done))
  have HA2 := Lib.hid hat2
  clear hat2
  go_wp2_with fail
  refine (HI.out _ a2 b2 HA2.out).mono ?_
  rintro e wx4 ⟨rfl, hb4⟩
  have hB4 : Below w.heap.size w wx4 := by (repeat' (first | (with_reducible exact Below.refl _ _) | (with_reducible assumption) | (with_reducible refine Below.drew ?_) | (with_reducible refine Below.setCell ?_ ?_ _) | (with_reducible refine bnext ?_ (by assumption)) | (with_reducible refine Below.alloc ?_ ?_ _) | go_size))
  have hS4 : w.heap.size ≤ wx4.heap.size := hB4.size
  have hz4_0 : w.heap.size < wx4.heap.size := Nat.lt_of_lt_of_le (by first | assumption | (simp [go_sem]; done) | (simp [go_sem]; omega)) hb4.size
  have hz4_1 : wx3.heap.size < wx4.heap.size := Nat.lt_of_lt_of_le (by first | assumption | (simp [go_sem]; done) | (simp [go_sem]; omega)) hb4.size
  have k4_0 : wx4.cell? ⟨w.heap.size, 0, none⟩ = some (.int .i64 h) := keep_cell hb4 (by first | assumption | (simp [go_sem, *]; done))
  have k4_1 : wx4.cell? ⟨w.heap.size, 1, none⟩ = some (.int .u64 l) := keep_cell hb4 (by first | assumption | (simp [go_sem, *]; done))
  have k4_2 : wx4.cell? ⟨wx3.heap.size, 0, none⟩ = some (.int .i64 a2) := keep_cell hb4 (by first | assumption | (simp [go_sem, *]; done))
  have k4_3 : wx4.cell? ⟨wx3.heap.size, 1, none⟩ = some (.int .u64 b2) := keep_cell hb4 (by first | assumption | (simp [go_sem, *]; done))
  have f4_0 : wx4.frozen? ⟨w.heap.size, 0, none⟩ = false := keep_free hb4 (by first | assumption | (simp [go_sem]; done) | (simp [go_sem]; omega)) (by first | assumption | (simp [go_sem, *]; done))
  have f4_1 : wx4.frozen? ⟨w.heap.size, 1, none⟩ = false := keep_free hb4 (by first | assumption | (simp [go_sem]; done) | (simp [go_sem]; omega)) (by first | assumption | (simp [go_sem, *]; done))
  have f4_2 : wx4.frozen? ⟨wx3.heap.size, 0, none⟩ = false := keep_free hb4 (by first | assumption | (simp [go_sem]; done) | (simp [go_sem]; omega)) (by first | assumption | (simp [go_sem, *]; done))
  have f4_3 : wx4.frozen? ⟨wx3.heap.size, 1, none⟩ = false := keep_free hb4 (by first | assumption | (simp [go_sem]; done) | (simp [go_sem]; omega)) (by first | assumption | (simp [go_sem, *]; done))
  go_wp2_with fail
  refine (HM.out _).mono ?_
  rintro e wx5 ⟨a4, b4, rfl, hat4, hb5⟩
  have hB5 : Below w.heap.size w wx5 := by (repeat' (first | (with_reducible exact Below.refl _ _) | (with_reducible assumption) | (with_reducible refine Below.drew ?_) | (with_reducible refine Below.setCell ?_ ?_ _) | (with_reducible refine bnext ?_ (by assumption)) | (with_reducible refine Below.alloc ?_ ?_ _) | go_size))
  have hS5 : w.heap.size ≤ wx5.heap.size := hB5.size
  have hz5_0 : w.heap.size < wx5.heap.size := Nat.lt_of_lt_of_le (by first | assumption | (simp [go_sem]; done) | (simp [go_sem]; omega)) hb5.size
  have hz5_1 : wx3.heap.size < wx5.heap.size := Nat.lt_of_lt_of_le (by first | assumption | (simp [go_sem]; done) | (simp [go_sem]; omega)) hb5.size
  have k5_0 : wx5.cell? ⟨w.heap.size, 0, none⟩ = some (.int .i64 h) := keep_cell hb5 (by first | assumption | (simp [go_sem, *]; done))
  have k5_1 : wx5.cell? ⟨w.heap.size, 1, none⟩ = some (.int .u64 l) := keep_cell hb5 (by first | assumption | (simp [go_sem, *]; done))
  have k5_2 : wx5.cell? ⟨wx3.heap.size, 0, none⟩ = some (.int .i64 a2) := keep_cell hb5 (by first | assumption | (simp [go_sem, *]; done))
  have k5_3 : wx5.cell? ⟨wx3.heap.size, 1, none⟩ = some (.int .u64 b2) := keep_cell hb5 (by first | assumption | (simp [go_sem, *]; done))
  have f5_0 : wx5.frozen? ⟨w.heap.size, 0, none⟩ = false := keep_free hb5 (by first | assumption | (simp [go_sem]; done) | (simp [go_sem]; omega)) (by first | assumption | (simp [go_sem, *]; done))
  have f5_1 : wx5.frozen? ⟨w.heap.size, 1, none⟩ = false := keep_free hb5 (by first | assumption | (simp [go_sem]; done) | (simp [go_sem]; omega)) (by first | assumption | (simp [go_sem, *]; done))
  have f5_2 : wx5.frozen? ⟨wx3.heap.size, 0, none⟩ = false := keep_free hb5 (by first | assumption | (simp [go_sem]; done) | (simp [go_sem]; omega)) (by first | assumption | (simp [go_sem, *]; done))
  have f5_3 : wx5.frozen? ⟨wx3.heap.size, 1, none⟩ = false := keep_free hb5 (by first | assumption | (simp [go_sem]; done) | (simp [go_sem]; omega)) (by first | assumption | (simp [go_sem, *]; done))
  have HA4 := Lib.hid hat4
  clear hat4
  go_wp2_with fail
  refine (HO.out _).mono ?_
  rintro e wx6 ⟨a5, b5, rfl, hat5, hb6⟩
  have hB6 : Below w.heap.size w wx6 := by (repeat' (first | (with_reducible exact Below.refl _ _) | (with_reducible assumption) | (with_reducible refine Below.drew ?_) | (with_reducible refine Below.setCell ?_ ?_ _) | (with_reducible refine bnext ?_ (by assumption)) | (with_reducible refine Below.alloc ?_ ?_ _) | go_size))
  have hS6 : w.heap.size ≤ wx6.heap.size := hB6.size
  have hz6_0 : w.heap.size < wx6.heap.size := Nat.lt_of_lt_of_le (by first | assumption | (simp [go_sem]; done) | (simp [go_sem]; omega)) hb6.size
  have hz6_1 : wx3.heap.size < wx6.heap.size := Nat.lt_of_lt_of_le (by first | assumption | (simp [go_sem]; done) | (simp [go_sem]; omega)) hb6.size
  have k6_0 : wx6.cell? ⟨w.heap.size, 0, none⟩ = some (.int .i64 h) := keep_cell hb6 (by first | assumption | (simp [go_sem, *]; done))
  have k6_1 : wx6.cell? ⟨w.heap.size, 1, none⟩ = some (.int .u64 l) := keep_cell hb6 (by first | assumption | (simp [go_sem, *]; done))
  have k6_2 : wx6.cell? ⟨wx3.heap.size, 0, none⟩ = some (.int .i64 a2) := keep_cell hb6 (by first | assumption | (simp [go_sem, *]; done))
  have k6_3 : wx6.cell? ⟨wx3.heap.size, 1, none⟩ = some (.int .u64 b2) := keep_cell hb6 (by first | assumption | (simp [go_sem, *]; done))
  have f6_0 : wx6.frozen? ⟨w.heap.size, 0, none⟩ = false := keep_free hb6 (by first | assumption | (simp [go_sem]; done) | (simp [go_sem]; omega)) (by first | assumption | (simp [go_sem, *]; done))
  have f6_1 : wx6.frozen? ⟨w.heap.size, 1, none⟩ = false := keep_free hb6 (by first | assumption | (simp [go_sem]; done) | (simp [go_sem]; omega)) (by first | assumption | (simp [go_sem, *]; done))
  have f6_2 : wx6.frozen? ⟨wx3.heap.size, 0, none⟩ = false := keep_free hb6 (by first | assumption | (simp [go_sem]; done) | (simp [go_sem]; omega)) (by first | assumption | (simp [go_sem, *]; done))
  have f6_3 : wx6.frozen? ⟨wx3.heap.size, 1, none⟩ = false := keep_free hb6 (by first | assumption | (simp [go_sem]; done) | (simp [go_sem]; omega)) (by first | assumption | (simp [go_sem, *]; done))
  have HA5 := Lib.hid hat5
  clear hat5
  go_wp2_with fail
  refine (HAD.out _ a4 a5 b4 b5 HA4.out HA5.out).mono ?_
  rintro e wx7 ⟨rfl, hb7⟩
  have hB7 : Below w.heap.size w wx7 := by (repeat' (first | (with_reducible exact Below.refl _ _) | (with_reducible assumption) | (with_reducible refine Below.drew ?_) | (with_reducible refine Below.setCell ?_ ?_ _) | (with_reducible refine bnext ?_ (by assumption)) | (with_reducible refine Below.alloc ?_ ?_ _) | go_size))
  have hS7 : w.heap.size ≤ wx7.heap.size := hB7.size
  have hz7_0 : w.heap.size < wx7.heap.size := Nat.lt_of_lt_of_le (by first | assumption | (simp [go_sem]; done) | (simp [go_sem]; omega)) hb7.size
  have hz7_1 : wx3.heap.size < wx7.heap.size := Nat.lt_of_lt_of_le (by first | assumption | (simp [go_sem]; done) | (simp [go_sem]; omega)) hb7.size
  have k7_0 : wx7.cell? ⟨w.heap.size, 0, none⟩ = some (.int .i64 h) := keep_cell hb7 (by first | assumption | (simp [go_sem, *]; done))
  have k7_1 : wx7.cell? ⟨w.heap.size, 1, none⟩ = some (.int .u64 l) := keep_cell hb7 (by first | assumption | (simp [go_sem, *]; done))
  have k7_2 : wx7.cell? ⟨wx3.heap.size, 0, none⟩ = some (.int .i64 a2) := keep_cell hb7 (by first | assumption | (simp [go_sem, *]; done))
  have k7_3 : wx7.cell? ⟨wx3.heap.size, 1, none⟩ = some (.int .u64 b2) := keep_cell hb7 (by first | assumption | (simp [go_sem, *]; done))
  have f7_0 : wx7.frozen? ⟨w.heap.size, 0, none⟩ = false := keep_free hb7 (by first | assumption | (simp [go_sem]; done) | (simp [go_sem]; omega)) (by first | assumption | (simp [go_sem, *]; done))
  have f7_1 : wx7.frozen? ⟨w.heap.size, 1, none⟩ = false := keep_free hb7 (by first | assumption | (simp [go_sem]; done) | (simp [go_sem]; omega)) (by first | assumption | (simp [go_sem, *]; done))
  have f7_2 : wx7.frozen? ⟨wx3.heap.size, 0, none⟩ = false := keep_free hb7 (by first | assumption | (simp [go_sem]; done) | (simp [go_sem]; omega)) (by first | assumption | (simp [go_sem, *]; done))
  have f7_3 : wx7.frozen? ⟨wx3.heap.size, 1, none⟩ = false := keep_free hb7 (by first | assumption | (simp [go_sem]; done) | (simp [go_sem]; omega)) (by first | assumption | (simp [go_sem, *]; done))
  go_wp2
  go_ret
  exact ⟨rfl, by (repeat' (first | (with_reducible exact Below.refl _ _) | (with_reducible assumption) | (with_reducible refine Below.drew ?_) | (with_reducible refine Below.setCell ?_ ?_ _) | (with_reducible refine bnext ?_ (by assumption)) | (with_reducible refine Below.alloc ?_ ?_ _) | go_size))⟩
theorem walk_wideRests (x h : Int) (l : Nat) (a c : Int) (w : World) (hx : At x h l) (ha0 : -9223372036854775808 ≤ a) (ha1 : a ≤ 9223372036854775807) (hc0 : -9223372036854775808 ≤ c) (hc1 : c ≤ 9223372036854775807) :
    Calls Try.prog 7 #[.agg #[.int .i64 h, .int .u64 l], .int .i64 a, .int .i64 c] w fun e w' => e = .returned (.bool true) ∧ Below w.heap.size w w' := by
  by_cases hc : c = 0
  · exact rests_zero h l a c w (by simpa using hc)
  · have hcz : (c == 0) = false := by simpa using hc
    have e := @dv_mul a c hc
    have h64 : In64 (dv (a * c) c) := by rw [e]; unfold In64; omega
    have MD := fun w => muldiv_at a c c a 0 w ha0 ha1 hc0 hc1 hc0 hc1 hc (by rw [if_pos h64, e]) (if_pos h64)
    have DD := fun w => wdiv_any x h c l w hx hc0 hc1 hc
    by_cases hi : In (dv x c)
    · rw [valE, errE, if_pos hi, if_pos hi, if_pos hi] at DD
      have R := @rs_lt x c hc
      have E := dv_rs x c
      have II := fun w h l hat => int_any (dv x c) h l w hat
      obtain ⟨q, hq⟩ : ∃ q, dv x c = q := ⟨_, rfl⟩
      obtain ⟨r, hr⟩ : ∃ r, rs x c = r := ⟨_, rfl⟩
      rw [hq, hr] at DD E
      rw [hr] at R
      rw [hq] at II
      by_cases h6 : In64 q
      · rw [if_pos h6, if_pos h6] at II
        have h6' := h6
        unfold In64 at h6'
        have HM := fun w => mul_any q c w (by omega) (by omega) hc0 hc1
        have HO := fun w => of_any r w (by omega) (by omega)
        have HA : ∀ w h1 h2 l1 l2, At (q * c) h1 l1 → At r h2 l2 → Calls Try.prog 13 #[.agg #[.int .i64 h1, .int .u64 l1], .agg #[.int .i64 h2, .int .u64 l2]] w fun e w' => e = .returned (.tuple #[.agg #[.int .i64 h, .int .u64 l], .int .i64 0]) ∧ Below w.heap.size w w' := by
          intro w h1 h2 l1 l2 g1 g2
          refine (add_any _ _ h1 h2 l1 l2 w g1 g2).mono fun e w' ⟨a, b, he, hat, hb⟩ => ⟨?_, hb⟩
          rw [E] at he hat
          have hin := hx.inn
          rw [valE, if_pos hin] at hat
          rw [he, errE, if_pos hin, (hat.uniq hx).1, (hat.uniq hx).2]
        by_cases hs : c < 0
        · obtain ⟨r1, r2⟩ := R.2 hs
          by_cases hz : r = 0
          · exact rests_full_nz h l a c q r _ w hcz MD DD II HM HO HA (by simp; omega) (by simp; omega) (by simp; omega) (by simp; omega) (by simp; omega) (by simp; omega)
          · exact rests_full_n h l a c q r _ w hcz MD DD II HM HO HA (by simp; omega) (by simp; omega) (by simp; omega) (by simp; omega) (by simp; omega) (by simp; omega)
        · obtain ⟨r1, r2⟩ := R.1 (by omega)
          by_cases hz : r = 0
          · exact rests_full_pz h l a c q r _ w hcz MD DD II HM HO HA (by simp; omega) (by simp; omega) (by simp; omega) (by simp; omega) (by simp; omega) (by simp; omega)
          · exact rests_full_p h l a c q r _ w hcz MD DD II HM HO HA (by simp; omega) (by simp; omega) (by simp; omega) (by simp; omega) (by simp; omega) (by simp; omega)
      · rw [if_neg h6, if_neg h6] at II
        by_cases hs : c < 0
        · obtain ⟨r1, r2⟩ := R.2 hs
          by_cases hz : r = 0
          · exact rests_big_nz h l a c q r w hcz MD DD II (by simp; omega) (by simp; omega) (by simp; omega) (by simp; omega) (by simp; omega) (by simp; omega)
          · exact rests_big_n h l a c q r w hcz MD DD II (by simp; omega) (by simp; omega) (by simp; omega) (by simp; omega) (by simp; omega) (by simp; omega)
        · obtain ⟨r1, r2⟩ := R.1 (by omega)
          by_cases hz : r = 0
          · exact rests_big_pz h l a c q r w hcz MD DD II (by simp; omega) (by simp; omega) (by simp; omega) (by simp; omega) (by simp; omega) (by simp; omega)
          · exact rests_big_p h l a c q r w hcz MD DD II (by simp; omega) (by simp; omega) (by simp; omega) (by simp; omega) (by simp; omega) (by simp; omega)
    · rw [valE, errE, if_neg hi, if_neg hi, if_neg hi] at DD
      exact rests_err h l a c w hcz MD DD
end Go.Proofs.Ytknggdlhndffeaa.Fx
