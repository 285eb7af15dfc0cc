/- The law on texts and sums, walked -/
import Derived.Test.YtknggdlhndffeaaProg
import Derived.Test.YtknggdlhndffeaaP1
import Derived.Test.YtknggdlhndffeaaW8
import Derived.Deep.RegionHeld3
import Derived.Test.YtknggdlhndffeaaE
import Derived.Deep.DeepCutAuto
import Derived.Outline
set_option linter.unusedVariables false
set_option linter.unusedSimpArgs false
namespace Go.Proofs.Ytknggdlhndffeaa.Fx
open Go Go.RowKit Wm
set_option maxRecDepth 100000 in
set_option maxHeartbeats 8000000 in
theorem back_t (xh yh zh th sh lh uh ph qh a b na g j k c d : Int) (xl yl zl tl sl ll ul pl ql : Nat) (s tx : ByteArray) (w : World)
    (HTX : Hid (Ans 31 #[.agg #[.int .i64 xh, .int .u64 xl]] (.string tx)))
    (HPX : Hid (Ans 28 #[.string tx] (.tuple #[.agg #[.int .i64 xh, .int .u64 xl], .int .i64 0])))
    (HPS : Hid (Ans 28 #[.string s] (.tuple #[.agg #[.int .i64 th, .int .u64 tl], .int .i64 0])))
    (HTT : Hid (Ans 31 #[.agg #[.int .i64 th, .int .u64 tl]] (.string s)))
    (HA1 : Hid (Ans 13 #[.agg #[.int .i64 xh, .int .u64 xl], .agg #[.int .i64 yh, .int .u64 yl]] (.tuple #[.agg #[.int .i64 sh, .int .u64 sl], .int .i64 g])))
    (HA2 : Hid (Ans 13 #[.agg #[.int .i64 yh, .int .u64 yl], .agg #[.int .i64 xh, .int .u64 xl]] (.tuple #[.agg #[.int .i64 sh, .int .u64 sl], .int .i64 g])))
    (HSB : Hid (g = 0 → Ans 16 #[.agg #[.int .i64 sh, .int .u64 sl], .agg #[.int .i64 yh, .int .u64 yl]] (.tuple #[.agg #[.int .i64 xh, .int .u64 xl], .int .i64 0])))
    (HA3 : Hid (g = 0 → Ans 13 #[.agg #[.int .i64 sh, .int .u64 sl], .agg #[.int .i64 zh, .int .u64 zl]] (.tuple #[.agg #[.int .i64 lh, .int .u64 ll], .int .i64 j])))
    (HA4 : Hid (Ans 13 #[.agg #[.int .i64 yh, .int .u64 yl], .agg #[.int .i64 zh, .int .u64 zl]] (.tuple #[.agg #[.int .i64 uh, .int .u64 ul], .int .i64 k])))
    (HA5 : Hid (g = 0 → j = 0 → k = 0 → Ans 13 #[.agg #[.int .i64 xh, .int .u64 xl], .agg #[.int .i64 uh, .int .u64 ul]] (.tuple #[.agg #[.int .i64 lh, .int .u64 ll], .int .i64 0])))
    (HM1 : Hid (Ans 21 #[.int .i64 a, .int .i64 b] (.agg #[.int .i64 ph, .int .u64 pl])))
    (HM2 : Hid (Ans 21 #[.int .i64 b, .int .i64 a] (.agg #[.int .i64 ph, .int .u64 pl])))
    (HC1 : Hid (Ans 23 #[.agg #[.int .i64 xh, .int .u64 xl], .agg #[.int .i64 yh, .int .u64 yl]] (.int .i64 c)))
    (HC2 : Hid (Ans 23 #[.agg #[.int .i64 yh, .int .u64 yl], .agg #[.int .i64 xh, .int .u64 xl]] (.int .i64 d)))
    (HM3 : Hid (a ≠ -9223372036854775808 → Ans 21 #[.int .i64 na, .int .i64 b] (.agg #[.int .i64 qh, .int .u64 ql])))
    (HM4 : Hid (a ≠ -9223372036854775808 → Ans 21 #[.int .i64 b, .int .i64 na] (.agg #[.int .i64 qh, .int .u64 ql])))
    (hs : (s.size : Int) ≤ 60) (hcd : wrap64 (-d) = c) (hcd' : IntKind.i64.wrap (-d) = c) (hna : wrap64 (-a) = na) (hna' : IntKind.i64.wrap (-a) = na) :
    Calls Try.prog 8 #[.agg #[.int .i64 xh, .int .u64 xl], .agg #[.int .i64 yh, .int .u64 yl], .agg #[.int .i64 zh, .int .u64 zl], .int .i64 a, .int .i64 b, .string s] w fun e w' => e = .returned (.bool true) ∧ Below w.heap.size w w' := by
  unfold Ans at *
  have hgg : ¬ (60 : Int) < (s.size : Int) := by omega
  go_enter Try.func8, Try.ntmps8
  go_wp2_with fail
  refine (alive_any _).mono ?_
  rintro e wx1 ⟨rfl, hb1⟩
  have hB1 : Below w.heap.size w wx1 := by (repeat' (first | (with_reducible exact Below.refl _ _) | (with_reducible assumption) | (with_reducible refine Below.drew ?_) | (with_reducible refine Below.setCell ?_ ?_ _) | (with_reducible refine bnext ?_ (by assumption)) | (with_reducible refine Below.alloc ?_ ?_ _) | go_size))
  have hS1 : w.heap.size ≤ wx1.heap.size := hB1.size
  have k1_0 : wx1.cell? ⟨w.heap.size, 0, none⟩ = some (.int .i64 xh) := keep_cell hb1 (by first | assumption | (simp [go_sem, *]; done))
  have k1_1 : wx1.cell? ⟨w.heap.size, 1, none⟩ = some (.int .u64 xl) := keep_cell hb1 (by first | assumption | (simp [go_sem, *]; done))
  have k1_2 : wx1.cell? ⟨w.heap.size + 1, 0, none⟩ = some (.int .i64 yh) := keep_cell hb1 (by first | assumption | (simp [go_sem, *]; done))
  have k1_3 : wx1.cell? ⟨w.heap.size + 1, 1, none⟩ = some (.int .u64 yl) := keep_cell hb1 (by first | assumption | (simp [go_sem, *]; done))
  have k1_4 : wx1.cell? ⟨w.heap.size + 1 + 1, 0, none⟩ = some (.int .i64 zh) := keep_cell hb1 (by first | assumption | (simp [go_sem, *]; done))
  have k1_5 : wx1.cell? ⟨w.heap.size + 1 + 1, 1, none⟩ = some (.int .u64 zl) := keep_cell hb1 (by first | assumption | (simp [go_sem, *]; done))
  have hz1_0 : w.heap.size < wx1.heap.size := block_lt_of_cell k1_0
  have hz1_1 : w.heap.size + 1 < wx1.heap.size := block_lt_of_cell k1_2
  have hz1_2 : w.heap.size + 1 + 1 < wx1.heap.size := block_lt_of_cell k1_4
  go_wp2_with fail
  refine (HTX.out _).mono ?_
  rintro e wx2 ⟨rfl, hb2⟩
  have hB2 : Below w.heap.size w wx2 := by (repeat' (first | (with_reducible exact Below.refl _ _) | (with_reducible assumption) | (with_reducible refine Below.drew ?_) | (with_reducible refine Below.setCell ?_ ?_ _) | (with_reducible refine bnext ?_ (by assumption)) | (with_reducible refine Below.alloc ?_ ?_ _) | go_size))
  have hS2 : w.heap.size ≤ wx2.heap.size := hB2.size
  have k2_0 : wx2.cell? ⟨w.heap.size, 0, none⟩ = some (.int .i64 xh) := keep_cell hb2 (by first | assumption | (simp [go_sem, *]; done))
  have k2_1 : wx2.cell? ⟨w.heap.size, 1, none⟩ = some (.int .u64 xl) := keep_cell hb2 (by first | assumption | (simp [go_sem, *]; done))
  have k2_2 : wx2.cell? ⟨w.heap.size + 1, 0, none⟩ = some (.int .i64 yh) := keep_cell hb2 (by first | assumption | (simp [go_sem, *]; done))
  have k2_3 : wx2.cell? ⟨w.heap.size + 1, 1, none⟩ = some (.int .u64 yl) := keep_cell hb2 (by first | assumption | (simp [go_sem, *]; done))
  have k2_4 : wx2.cell? ⟨w.heap.size + 1 + 1, 0, none⟩ = some (.int .i64 zh) := keep_cell hb2 (by first | assumption | (simp [go_sem, *]; done))
  have k2_5 : wx2.cell? ⟨w.heap.size + 1 + 1, 1, none⟩ = some (.int .u64 zl) := keep_cell hb2 (by first | assumption | (simp [go_sem, *]; done))
  have hz2_0 : w.heap.size < wx2.heap.size := block_lt_of_cell k2_0
  have hz2_1 : w.heap.size + 1 < wx2.heap.size := block_lt_of_cell k2_2
  have hz2_2 : w.heap.size + 1 + 1 < wx2.heap.size := block_lt_of_cell k2_4
  go_wp2_with fail
  refine (HPX.out _).mono ?_
  rintro e wx3 ⟨rfl, hb3⟩
  have hB3 : Below w.heap.size w wx3 := by (repeat' (first | (with_reducible exact Below.refl _ _) | (with_reducible assumption) | (with_reducible refine Below.drew ?_) | (with_reducible refine Below.setCell ?_ ?_ _) | (with_reducible refine bnext ?_ (by assumption)) | (with_reducible refine Below.alloc ?_ ?_ _) | go_size))
  have hS3 : w.heap.size ≤ wx3.heap.size := hB3.size
  have k3_0 : wx3.cell? ⟨w.heap.size, 0, none⟩ = some (.int .i64 xh) := keep_cell hb3 (by first | assumption | (simp [go_sem, *]; done))
  have k3_1 : wx3.cell? ⟨w.heap.size, 1, none⟩ = some (.int .u64 xl) := keep_cell hb3 (by first | assumption | (simp [go_sem, *]; done))
  have k3_2 : wx3.cell? ⟨w.heap.size + 1, 0, none⟩ = some (.int .i64 yh) := keep_cell hb3 (by first | assumption | (simp [go_sem, *]; done))
  have k3_3 : wx3.cell? ⟨w.heap.size + 1, 1, none⟩ = some (.int .u64 yl) := keep_cell hb3 (by first | assumption | (simp [go_sem, *]; done))
  have k3_4 : wx3.cell? ⟨w.heap.size + 1 + 1, 0, none⟩ = some (.int .i64 zh) := keep_cell hb3 (by first | assumption | (simp [go_sem, *]; done))
  have k3_5 : wx3.cell? ⟨w.heap.size + 1 + 1, 1, none⟩ = some (.int .u64 zl) := keep_cell hb3 (by first | assumption | (simp [go_sem, *]; done))
  have hz3_0 : w.heap.size < wx3.heap.size := block_lt_of_cell k3_0
  have hz3_1 : w.heap.size + 1 < wx3.heap.size := block_lt_of_cell k3_2
  have hz3_2 : w.heap.size + 1 + 1 < wx3.heap.size := block_lt_of_cell k3_4
  go_wp2_with fail
  refine (HPS.out _).mono ?_
  rintro e wx4 ⟨rfl, hb4⟩
  have hB4 : Below w.heap.size w wx4 := by (repeat' (first | (with_reducible exact Below.refl _ _) | (with_reducible assumption) | (with_reducible refine Below.drew ?_) | (with_reducible refine Below.setCell ?_ ?_ _) | (with_reducible refine bnext ?_ (by assumption)) | (with_reducible refine Below.alloc ?_ ?_ _) | go_size))
  have hS4 : w.heap.size ≤ wx4.heap.size := hB4.size
  have k4_0 : wx4.cell? ⟨w.heap.size, 0, none⟩ = some (.int .i64 xh) := keep_cell hb4 (by first | assumption | (simp [go_sem, *]; done))
  have k4_1 : wx4.cell? ⟨w.heap.size, 1, none⟩ = some (.int .u64 xl) := keep_cell hb4 (by first | assumption | (simp [go_sem, *]; done))
  have k4_2 : wx4.cell? ⟨w.heap.size + 1, 0, none⟩ = some (.int .i64 yh) := keep_cell hb4 (by first | assumption | (simp [go_sem, *]; done))
  have k4_3 : wx4.cell? ⟨w.heap.size + 1, 1, none⟩ = some (.int .u64 yl) := keep_cell hb4 (by first | assumption | (simp [go_sem, *]; done))
  have k4_4 : wx4.cell? ⟨w.heap.size + 1 + 1, 0, none⟩ = some (.int .i64 zh) := keep_cell hb4 (by first | assumption | (simp [go_sem, *]; done))
  have k4_5 : wx4.cell? ⟨w.heap.size + 1 + 1, 1, none⟩ = some (.int .u64 zl) := keep_cell hb4 (by first | assumption | (simp [go_sem, *]; done))
  have k4_6 : wx4.cell? ⟨wx3.heap.size, 0, none⟩ = some (.int .i64 xh) := keep_cell hb4 (by first | assumption | (simp [go_sem, *]; done))
  have k4_7 : wx4.cell? ⟨wx3.heap.size, 1, none⟩ = some (.int .u64 xl) := keep_cell hb4 (by first | assumption | (simp [go_sem, *]; done))
  have hz4_0 : w.heap.size < wx4.heap.size := block_lt_of_cell k4_0
  have hz4_1 : w.heap.size + 1 < wx4.heap.size := block_lt_of_cell k4_2
  have hz4_2 : w.heap.size + 1 + 1 < wx4.heap.size := block_lt_of_cell k4_4
  have hz4_3 : wx3.heap.size < wx4.heap.size := block_lt_of_cell k4_6
  go_wp2_with fail
  refine (HTT.out _).mono ?_
  rintro e wx5 ⟨rfl, hb5⟩
  have hB5 : Below w.heap.size w wx5 := by (repeat' (first | (with_reducible exact Below.refl _ _) | (with_reducible assumption) | (with_reducible refine Below.drew ?_) | (with_reducible refine Below.setCell ?_ ?_ _) | (with_reducible refine bnext ?_ (by assumption)) | (with_reducible refine Below.alloc ?_ ?_ _) | go_size))
  have hS5 : w.heap.size ≤ wx5.heap.size := hB5.size
  have k5_0 : wx5.cell? ⟨w.heap.size, 0, none⟩ = some (.int .i64 xh) := keep_cell hb5 (by first | assumption | (simp [go_sem, *]; done))
  have k5_1 : wx5.cell? ⟨w.heap.size, 1, none⟩ = some (.int .u64 xl) := keep_cell hb5 (by first | assumption | (simp [go_sem, *]; done))
  have k5_2 : wx5.cell? ⟨w.heap.size + 1, 0, none⟩ = some (.int .i64 yh) := keep_cell hb5 (by first | assumption | (simp [go_sem, *]; done))
  have k5_3 : wx5.cell? ⟨w.heap.size + 1, 1, none⟩ = some (.int .u64 yl) := keep_cell hb5 (by first | assumption | (simp [go_sem, *]; done))
  have k5_4 : wx5.cell? ⟨w.heap.size + 1 + 1, 0, none⟩ = some (.int .i64 zh) := keep_cell hb5 (by first | assumption | (simp [go_sem, *]; done))
  have k5_5 : wx5.cell? ⟨w.heap.size + 1 + 1, 1, none⟩ = some (.int .u64 zl) := keep_cell hb5 (by first | assumption | (simp [go_sem, *]; done))
  have k5_6 : wx5.cell? ⟨wx3.heap.size, 0, none⟩ = some (.int .i64 xh) := keep_cell hb5 (by first | assumption | (simp [go_sem, *]; done))
  have k5_7 : wx5.cell? ⟨wx3.heap.size, 1, none⟩ = some (.int .u64 xl) := keep_cell hb5 (by first | assumption | (simp [go_sem, *]; done))
  have k5_8 : wx5.cell? ⟨wx4.heap.size, 0, none⟩ = some (.int .i64 th) := keep_cell hb5 (by first | assumption | (simp [go_sem, *]; done))
  have k5_9 : wx5.cell? ⟨wx4.heap.size, 1, none⟩ = some (.int .u64 tl) := keep_cell hb5 (by first | assumption | (simp [go_sem, *]; done))
  have hz5_0 : w.heap.size < wx5.heap.size := block_lt_of_cell k5_0
  have hz5_1 : w.heap.size + 1 < wx5.heap.size := block_lt_of_cell k5_2
  have hz5_2 : w.heap.size + 1 + 1 < wx5.heap.size := block_lt_of_cell k5_4
  have hz5_3 : wx3.heap.size < wx5.heap.size := block_lt_of_cell k5_6
  have hz5_4 : wx4.heap.size < wx5.heap.size := block_lt_of_cell k5_8
  go_wp2_with fail
  refine (HA1.out _).mono ?_
  rintro e wx6 ⟨rfl, hb6⟩
  have hB6 : Below w.heap.size w wx6 := by (repeat' (first | (with_reducible exact Below.refl _ _) | (with_reducible assumption) | (with_reducible refine Below.drew ?_) | (with_reducible refine Below.setCell ?_ ?_ _) | (with_reducible refine bnext ?_ (by assumption)) | (with_reducible refine Below.alloc ?_ ?_ _) | go_size))
  have hS6 : w.heap.size ≤ wx6.heap.size := hB6.size
  have k6_0 : wx6.cell? ⟨w.heap.size, 0, none⟩ = some (.int .i64 xh) := keep_cell hb6 (by first | assumption | (simp [go_sem, *]; done))
  have k6_1 : wx6.cell? ⟨w.heap.size, 1, none⟩ = some (.int .u64 xl) := keep_cell hb6 (by first | assumption | (simp [go_sem, *]; done))
  have k6_2 : wx6.cell? ⟨w.heap.size + 1, 0, none⟩ = some (.int .i64 yh) := keep_cell hb6 (by first | assumption | (simp [go_sem, *]; done))
  have k6_3 : wx6.cell? ⟨w.heap.size + 1, 1, none⟩ = some (.int .u64 yl) := keep_cell hb6 (by first | assumption | (simp [go_sem, *]; done))
  have k6_4 : wx6.cell? ⟨w.heap.size + 1 + 1, 0, none⟩ = some (.int .i64 zh) := keep_cell hb6 (by first | assumption | (simp [go_sem, *]; done))
  have k6_5 : wx6.cell? ⟨w.heap.size + 1 + 1, 1, none⟩ = some (.int .u64 zl) := keep_cell hb6 (by first | assumption | (simp [go_sem, *]; done))
  have hz6_0 : w.heap.size < wx6.heap.size := block_lt_of_cell k6_0
  have hz6_1 : w.heap.size + 1 < wx6.heap.size := block_lt_of_cell k6_2
  have hz6_2 : w.heap.size + 1 + 1 < wx6.heap.size := block_lt_of_cell k6_4
  go_wp2_with fail
  refine (HA2.out _).mono ?_
  rintro e wx7 ⟨rfl, hb7⟩
  have hB7 : Below w.heap.size w wx7 := by (repeat' (first | (with_reducible exact Below.refl _ _) | (with_reducible assumption) | (with_reducible refine Below.drew ?_) | (with_reducible refine Below.setCell ?_ ?_ _) | (with_reducible refine bnext ?_ (by assumption)) | (with_reducible refine Below.alloc ?_ ?_ _) | go_size))
  have hS7 : w.heap.size ≤ wx7.heap.size := hB7.size
  have k7_0 : wx7.cell? ⟨w.heap.size, 0, none⟩ = some (.int .i64 xh) := keep_cell hb7 (by first | assumption | (simp [go_sem, *]; done))
  have k7_1 : wx7.cell? ⟨w.heap.size, 1, none⟩ = some (.int .u64 xl) := keep_cell hb7 (by first | assumption | (simp [go_sem, *]; done))
  have k7_2 : wx7.cell? ⟨w.heap.size + 1, 0, none⟩ = some (.int .i64 yh) := keep_cell hb7 (by first | assumption | (simp [go_sem, *]; done))
  have k7_3 : wx7.cell? ⟨w.heap.size + 1, 1, none⟩ = some (.int .u64 yl) := keep_cell hb7 (by first | assumption | (simp [go_sem, *]; done))
  have k7_4 : wx7.cell? ⟨w.heap.size + 1 + 1, 0, none⟩ = some (.int .i64 zh) := keep_cell hb7 (by first | assumption | (simp [go_sem, *]; done))
  have k7_5 : wx7.cell? ⟨w.heap.size + 1 + 1, 1, none⟩ = some (.int .u64 zl) := keep_cell hb7 (by first | assumption | (simp [go_sem, *]; done))
  have k7_6 : wx7.cell? ⟨wx6.heap.size, 0, none⟩ = some (.int .i64 sh) := keep_cell hb7 (by first | assumption | (simp [go_sem, *]; done))
  have k7_7 : wx7.cell? ⟨wx6.heap.size, 1, none⟩ = some (.int .u64 sl) := keep_cell hb7 (by first | assumption | (simp [go_sem, *]; done))
  have hz7_0 : w.heap.size < wx7.heap.size := block_lt_of_cell k7_0
  have hz7_1 : w.heap.size + 1 < wx7.heap.size := block_lt_of_cell k7_2
  have hz7_2 : w.heap.size + 1 + 1 < wx7.heap.size := block_lt_of_cell k7_4
  have hz7_3 : wx6.heap.size < wx7.heap.size := block_lt_of_cell k7_6
  go_upto_if 88 with (fail)
  go_cut [13] (fun s13 wx => s13 = .bool true ∧ wx.cell? ⟨w.heap.size, 0, none⟩ = some (.int .i64 xh) ∧ wx.cell? ⟨w.heap.size, 1, none⟩ = some (.int .u64 xl) ∧ wx.cell? ⟨w.heap.size + 1, 0, none⟩ = some (.int .i64 yh) ∧ wx.cell? ⟨w.heap.size + 1, 1, none⟩ = some (.int .u64 yl) ∧ Below w.heap.size w wx)
  case first =>
    by_cases hg : g = 0
    · skip
      subst hg
      have HSB' := Lib.hid (HSB.out rfl)
      have HA3' := Lib.hid (HA3.out rfl)
      have HA5' := Lib.hid (HA5.out rfl)
      clear HSB HA3 HA5
      go_wp2_with fail
      refine (HSB'.out _).mono ?_
      rintro e wx8 ⟨rfl, hb8⟩
      have hB8 : Below w.heap.size w wx8 := by (repeat' (first | (with_reducible exact Below.refl _ _) | (with_reducible assumption) | (with_reducible refine Below.drew ?_) | (with_reducible refine Below.setCell ?_ ?_ _) | (with_reducible refine bnext ?_ (by assumption)) | (with_reducible refine Below.alloc ?_ ?_ _) | go_size))
      have hS8 : w.heap.size ≤ wx8.heap.size := hB8.size
      have k8_0 : wx8.cell? ⟨w.heap.size, 0, none⟩ = some (.int .i64 xh) := keep_cell hb8 (by first | assumption | (simp [go_sem, *]; done))
      have k8_1 : wx8.cell? ⟨w.heap.size, 1, none⟩ = some (.int .u64 xl) := keep_cell hb8 (by first | assumption | (simp [go_sem, *]; done))
      have k8_2 : wx8.cell? ⟨w.heap.size + 1, 0, none⟩ = some (.int .i64 yh) := keep_cell hb8 (by first | assumption | (simp [go_sem, *]; done))
      have k8_3 : wx8.cell? ⟨w.heap.size + 1, 1, none⟩ = some (.int .u64 yl) := keep_cell hb8 (by first | assumption | (simp [go_sem, *]; done))
      have k8_4 : wx8.cell? ⟨w.heap.size + 1 + 1, 0, none⟩ = some (.int .i64 zh) := keep_cell hb8 (by first | assumption | (simp [go_sem, *]; done))
      have k8_5 : wx8.cell? ⟨w.heap.size + 1 + 1, 1, none⟩ = some (.int .u64 zl) := keep_cell hb8 (by first | assumption | (simp [go_sem, *]; done))
      have k8_6 : wx8.cell? ⟨wx6.heap.size, 0, none⟩ = some (.int .i64 sh) := keep_cell hb8 (by first | assumption | (simp [go_sem, *]; done))
      have k8_7 : wx8.cell? ⟨wx6.heap.size, 1, none⟩ = some (.int .u64 sl) := keep_cell hb8 (by first | assumption | (simp [go_sem, *]; done))
      have hz8_0 : w.heap.size < wx8.heap.size := block_lt_of_cell k8_0
      have hz8_1 : w.heap.size + 1 < wx8.heap.size := block_lt_of_cell k8_2
      have hz8_2 : w.heap.size + 1 + 1 < wx8.heap.size := block_lt_of_cell k8_4
      have hz8_3 : wx6.heap.size < wx8.heap.size := block_lt_of_cell k8_6
      go_wp2_with fail
      refine (HA3'.out _).mono ?_
      rintro e wx9 ⟨rfl, hb9⟩
      have hB9 : Below w.heap.size w wx9 := by (repeat' (first | (with_reducible exact Below.refl _ _) | (with_reducible assumption) | (with_reducible refine Below.drew ?_) | (with_reducible refine Below.setCell ?_ ?_ _) | (with_reducible refine bnext ?_ (by assumption)) | (with_reducible refine Below.alloc ?_ ?_ _) | go_size))
      have hS9 : w.heap.size ≤ wx9.heap.size := hB9.size
      have k9_0 : wx9.cell? ⟨w.heap.size, 0, none⟩ = some (.int .i64 xh) := keep_cell hb9 (by first | assumption | (simp [go_sem, *]; done))
      have k9_1 : wx9.cell? ⟨w.heap.size, 1, none⟩ = some (.int .u64 xl) := keep_cell hb9 (by first | assumption | (simp [go_sem, *]; done))
      have k9_2 : wx9.cell? ⟨w.heap.size + 1, 0, none⟩ = some (.int .i64 yh) := keep_cell hb9 (by first | assumption | (simp [go_sem, *]; done))
      have k9_3 : wx9.cell? ⟨w.heap.size + 1, 1, none⟩ = some (.int .u64 yl) := keep_cell hb9 (by first | assumption | (simp [go_sem, *]; done))
      have k9_4 : wx9.cell? ⟨w.heap.size + 1 + 1, 0, none⟩ = some (.int .i64 zh) := keep_cell hb9 (by first | assumption | (simp [go_sem, *]; done))
      have k9_5 : wx9.cell? ⟨w.heap.size + 1 + 1, 1, none⟩ = some (.int .u64 zl) := keep_cell hb9 (by first | assumption | (simp [go_sem, *]; done))
      have k9_6 : wx9.cell? ⟨wx6.heap.size, 0, none⟩ = some (.int .i64 sh) := keep_cell hb9 (by first | assumption | (simp [go_sem, *]; done))
      have k9_7 : wx9.cell? ⟨wx6.heap.size, 1, none⟩ = some (.int .u64 sl) := keep_cell hb9 (by first | assumption | (simp [go_sem, *]; done))
      have k9_8 : wx9.cell? ⟨wx8.heap.size, 0, none⟩ = some (.int .i64 xh) := keep_cell hb9 (by first | assumption | (simp [go_sem, *]; done))
      have k9_9 : wx9.cell? ⟨wx8.heap.size, 1, none⟩ = some (.int .u64 xl) := keep_cell hb9 (by first | assumption | (simp [go_sem, *]; done))
      have hz9_0 : w.heap.size < wx9.heap.size := block_lt_of_cell k9_0
      have hz9_1 : w.heap.size + 1 < wx9.heap.size := block_lt_of_cell k9_2
      have hz9_2 : w.heap.size + 1 + 1 < wx9.heap.size := block_lt_of_cell k9_4
      have hz9_3 : wx6.heap.size < wx9.heap.size := block_lt_of_cell k9_6
      have hz9_4 : wx8.heap.size < wx9.heap.size := block_lt_of_cell k9_8
      go_wp2_with fail
      refine (HA4.out _).mono ?_
      rintro e wx10 ⟨rfl, hb10⟩
      have hB10 : Below w.heap.size w wx10 := by (repeat' (first | (with_reducible exact Below.refl _ _) | (with_reducible assumption) | (with_reducible refine Below.drew ?_) | (with_reducible refine Below.setCell ?_ ?_ _) | (with_reducible refine bnext ?_ (by assumption)) | (with_reducible refine Below.alloc ?_ ?_ _) | go_size))
      have hS10 : w.heap.size ≤ wx10.heap.size := hB10.size
      have k10_0 : wx10.cell? ⟨w.heap.size, 0, none⟩ = some (.int .i64 xh) := keep_cell hb10 (by first | assumption | (simp [go_sem, *]; done))
      have k10_1 : wx10.cell? ⟨w.heap.size, 1, none⟩ = some (.int .u64 xl) := keep_cell hb10 (by first | assumption | (simp [go_sem, *]; done))
      have k10_2 : wx10.cell? ⟨w.heap.size + 1, 0, none⟩ = some (.int .i64 yh) := keep_cell hb10 (by first | assumption | (simp [go_sem, *]; done))
      have k10_3 : wx10.cell? ⟨w.heap.size + 1, 1, none⟩ = some (.int .u64 yl) := keep_cell hb10 (by first | assumption | (simp [go_sem, *]; done))
      have k10_4 : wx10.cell? ⟨w.heap.size + 1 + 1, 0, none⟩ = some (.int .i64 zh) := keep_cell hb10 (by first | assumption | (simp [go_sem, *]; done))
      have k10_5 : wx10.cell? ⟨w.heap.size + 1 + 1, 1, none⟩ = some (.int .u64 zl) := keep_cell hb10 (by first | assumption | (simp [go_sem, *]; done))
      have k10_6 : wx10.cell? ⟨wx8.heap.size, 0, none⟩ = some (.int .i64 xh) := keep_cell hb10 (by first | assumption | (simp [go_sem, *]; done))
      have k10_7 : wx10.cell? ⟨wx8.heap.size, 1, none⟩ = some (.int .u64 xl) := keep_cell hb10 (by first | assumption | (simp [go_sem, *]; done))
      have k10_8 : wx10.cell? ⟨wx9.heap.size, 0, none⟩ = some (.int .i64 lh) := keep_cell hb10 (by first | assumption | (simp [go_sem, *]; done))
      have k10_9 : wx10.cell? ⟨wx9.heap.size, 1, none⟩ = some (.int .u64 ll) := keep_cell hb10 (by first | assumption | (simp [go_sem, *]; done))
      have hz10_0 : w.heap.size < wx10.heap.size := block_lt_of_cell k10_0
      have hz10_1 : w.heap.size + 1 < wx10.heap.size := block_lt_of_cell k10_2
      have hz10_2 : w.heap.size + 1 + 1 < wx10.heap.size := block_lt_of_cell k10_4
      have hz10_3 : wx8.heap.size < wx10.heap.size := block_lt_of_cell k10_6
      have hz10_4 : wx9.heap.size < wx10.heap.size := block_lt_of_cell k10_8
      by_cases hj : j = 0
      · by_cases hk : k = 0
        · skip
          subst hj
          subst hk
          have HA6 := Lib.hid (HA5'.out rfl rfl)
          clear HA5'
          go_wp2_with fail
          refine (HA6.out _).mono ?_
          rintro e wx11 ⟨rfl, hb11⟩
          have hB11 : Below w.heap.size w wx11 := by (repeat' (first | (with_reducible exact Below.refl _ _) | (with_reducible assumption) | (with_reducible refine Below.drew ?_) | (with_reducible refine Below.setCell ?_ ?_ _) | (with_reducible refine bnext ?_ (by assumption)) | (with_reducible refine Below.alloc ?_ ?_ _) | go_size))
          have hS11 : w.heap.size ≤ wx11.heap.size := hB11.size
          have k11_0 : wx11.cell? ⟨w.heap.size, 0, none⟩ = some (.int .i64 xh) := keep_cell hb11 (by first | assumption | (simp [go_sem, *]; done))
          have k11_1 : wx11.cell? ⟨w.heap.size, 1, none⟩ = some (.int .u64 xl) := keep_cell hb11 (by first | assumption | (simp [go_sem, *]; done))
          have k11_2 : wx11.cell? ⟨w.heap.size + 1, 0, none⟩ = some (.int .i64 yh) := keep_cell hb11 (by first | assumption | (simp [go_sem, *]; done))
          have k11_3 : wx11.cell? ⟨w.heap.size + 1, 1, none⟩ = some (.int .u64 yl) := keep_cell hb11 (by first | assumption | (simp [go_sem, *]; done))
          have k11_4 : wx11.cell? ⟨w.heap.size + 1 + 1, 0, none⟩ = some (.int .i64 zh) := keep_cell hb11 (by first | assumption | (simp [go_sem, *]; done))
          have k11_5 : wx11.cell? ⟨w.heap.size + 1 + 1, 1, none⟩ = some (.int .u64 zl) := keep_cell hb11 (by first | assumption | (simp [go_sem, *]; done))
          have k11_6 : wx11.cell? ⟨wx9.heap.size, 0, none⟩ = some (.int .i64 lh) := keep_cell hb11 (by first | assumption | (simp [go_sem, *]; done))
          have k11_7 : wx11.cell? ⟨wx9.heap.size, 1, none⟩ = some (.int .u64 ll) := keep_cell hb11 (by first | assumption | (simp [go_sem, *]; done))
          have k11_8 : wx11.cell? ⟨wx10.heap.size, 0, none⟩ = some (.int .i64 uh) := keep_cell hb11 (by first | assumption | (simp [go_sem, *]; done))
          have k11_9 : wx11.cell? ⟨wx10.heap.size, 1, none⟩ = some (.int .u64 ul) := keep_cell hb11 (by first | assumption | (simp [go_sem, *]; done))
          have hz11_0 : w.heap.size < wx11.heap.size := block_lt_of_cell k11_0
          have hz11_1 : w.heap.size + 1 < wx11.heap.size := block_lt_of_cell k11_2
          have hz11_2 : w.heap.size + 1 + 1 < wx11.heap.size := block_lt_of_cell k11_4
          have hz11_3 : wx9.heap.size < wx11.heap.size := block_lt_of_cell k11_6
          have hz11_4 : wx10.heap.size < wx11.heap.size := block_lt_of_cell k11_8
          go_wp2_with fail
          go_meet
          case rel => exact ⟨rfl, by first | assumption | (simp [go_sem, *]; done), by first | assumption | (simp [go_sem, *]; done), by first | assumption | (simp [go_sem, *]; done), by first | assumption | (simp [go_sem, *]; done), by (repeat' (first | (with_reducible exact Below.refl _ _) | (with_reducible assumption) | (with_reducible refine Below.drew ?_) | (with_reducible refine Below.setCell ?_ ?_ _) | (with_reducible refine bnext ?_ (by assumption)) | (with_reducible refine Below.alloc ?_ ?_ _) | go_size))⟩
        · have tj : (j == 0) = true := by simpa using hj
          have tk : (k == 0) = false := by simpa using hk
          clear HA5' hj hk
          go_wp2_with fail
          go_meet
          case rel => exact ⟨rfl, by first | assumption | (simp [go_sem, *]; done), by first | assumption | (simp [go_sem, *]; done), by first | assumption | (simp [go_sem, *]; done), by first | assumption | (simp [go_sem, *]; done), by (repeat' (first | (with_reducible exact Below.refl _ _) | (with_reducible assumption) | (with_reducible refine Below.drew ?_) | (with_reducible refine Below.setCell ?_ ?_ _) | (with_reducible refine bnext ?_ (by assumption)) | (with_reducible refine Below.alloc ?_ ?_ _) | go_size))⟩
      · have tj : (j == 0) = false := by simpa using hj
        clear HA5' hj
        go_wp2_with fail
        go_meet
        case rel => exact ⟨rfl, by first | assumption | (simp [go_sem, *]; done), by first | assumption | (simp [go_sem, *]; done), by first | assumption | (simp [go_sem, *]; done), by first | assumption | (simp [go_sem, *]; done), by (repeat' (first | (with_reducible exact Below.refl _ _) | (with_reducible assumption) | (with_reducible refine Below.drew ?_) | (with_reducible refine Below.setCell ?_ ?_ _) | (with_reducible refine bnext ?_ (by assumption)) | (with_reducible refine Below.alloc ?_ ?_ _) | go_size))⟩
    · skip
      have tg : (g == 0) = false := by simpa using hg
      clear HSB HA3 HA4 HA5
      go_wp2_with fail
      go_meet
      case rel => exact ⟨rfl, by first | assumption | (simp [go_sem, *]; done), by first | assumption | (simp [go_sem, *]; done), by first | assumption | (simp [go_sem, *]; done), by first | assumption | (simp [go_sem, *]; done), by (repeat' (first | (with_reducible exact Below.refl _ _) | (with_reducible assumption) | (with_reducible refine Below.drew ?_) | (with_reducible refine Below.setCell ?_ ?_ _) | (with_reducible refine bnext ?_ (by assumption)) | (with_reducible refine Below.alloc ?_ ?_ _) | go_size))⟩
  case rest =>
    obtain ⟨rfl, c0, c1, c2, c3, hBc⟩ := hcut
    clear HSB HA3 HA4 HA5
    by_cases ha : a = -9223372036854775808
    · have ta : (a == -9223372036854775808) = true := by simpa using ha
      clear HM3 HM4 ha
      go_wp2_with fail
      refine wp_region_held_drew (S := (fun w' => w'.cell? ⟨w.heap.size, 0, none⟩ = some (.int .i64 xh) ∧ w'.cell? ⟨w.heap.size, 1, none⟩ = some (.int .u64 xl) ∧ w'.cell? ⟨w.heap.size + 1, 0, none⟩ = some (.int .i64 yh) ∧ w'.cell? ⟨w.heap.size + 1, 1, none⟩ = some (.int .u64 yl) ∧ Below w.heap.size w w')) (by kernel_rfl) ?_ (fun hHeld => ?_)
      · (try dsimp only); (first | (go_split_ands; refine ⟨keep_cell (by assumption) (by assumption), keep_cell (by assumption) (by assumption), keep_cell (by assumption) (by assumption), keep_cell (by assumption) (by assumption), bnext (by assumption) (by assumption)⟩) | (refine ⟨?_, ?_, ?_, ?_, ?_⟩ <;> first | (with_reducible assumption) | (go_grown; done) | (simp [go_sem, *]; done)))
      refine wpAnyH_take (i := 0) (oi := ({ dst := some 133, op := Op.move (Operand.tmp 13), type := 4, pos := "outright.go:89", after := #[], guard := none } : Oper)) (v := ?_) rfl (by kernel_rfl) (by kernel_rfl) (by kernel_rfl) (fun _ _ _ h => h) (Or.inl ⟨by kernel_rfl, ?_⟩) (by assumption) ?_
      rotate_left
      · intro wz hSw; (try dsimp only at hSw); first | (go_simp; done) | (go_simp; with_reducible rfl)
      (try simp only [Act.put, List.setIfInBounds_toArray, List.set_cons_zero, List.set_cons_succ])
      refine wpAnyH_take (i := 1) (oi := ({ dst := some 134, op := Op.move (Operand.tmp 133), type := 4, pos := "outright.go:89", after := #[{ on := 0, ground := Ground.data }], guard := none } : Oper)) (v := ?_) rfl (by kernel_rfl) (by kernel_rfl) (by kernel_rfl) (fun _ _ _ h => h) (Or.inl ⟨by kernel_rfl, ?_⟩) (by assumption) ?_
      rotate_left
      · intro wz hSw; (try dsimp only at hSw); first | (go_simp; done) | (go_simp; with_reducible rfl)
      (try simp only [Act.put, List.setIfInBounds_toArray, List.set_cons_zero, List.set_cons_succ])
      refine wpAnyH_take (i := 2) (oi := ({ dst := some 135, op := Op.move (Operand.tmp 3), type := 2, pos := "outright.go:89", after := #[{ on := 1, ground := Ground.guard }], guard := some (1, true) } : Oper)) (v := ?_) rfl (by kernel_rfl) (by kernel_rfl) (by kernel_rfl) (fun _ _ _ h => h) (Or.inl ⟨by kernel_rfl, ?_⟩) (by assumption) ?_
      rotate_left
      · intro wz hSw; (try dsimp only at hSw); first | (go_simp; done) | (go_simp; with_reducible rfl)
      (try simp only [Act.put, List.setIfInBounds_toArray, List.set_cons_zero, List.set_cons_succ])
      refine wpAnyH_take (i := 3) (oi := ({ dst := some 136, op := Op.move (Operand.tmp 4), type := 2, pos := "outright.go:89", after := #[{ on := 1, ground := Ground.guard }], guard := some (1, true) } : Oper)) (v := ?_) rfl (by kernel_rfl) (by kernel_rfl) (by kernel_rfl) (fun _ _ _ h => h) (Or.inl ⟨by kernel_rfl, ?_⟩) (by assumption) ?_
      rotate_left
      · intro wz hSw; (try dsimp only at hSw); first | (go_simp; done) | (go_simp; with_reducible rfl)
      (try simp only [Act.put, List.setIfInBounds_toArray, List.set_cons_zero, List.set_cons_succ])
      refine wpAnyH_take (i := 5) (oi := ({ dst := some 138, op := Op.move (Operand.tmp 4), type := 2, pos := "outright.go:89", after := #[{ on := 1, ground := Ground.guard }], guard := some (1, true) } : Oper)) (v := ?_) rfl (by kernel_rfl) (by kernel_rfl) (by kernel_rfl) (fun _ _ _ h => h) (Or.inl ⟨by kernel_rfl, ?_⟩) (by assumption) ?_
      rotate_left
      · intro wz hSw; (try dsimp only at hSw); first | (go_simp; done) | (go_simp; with_reducible rfl)
      (try simp only [Act.put, List.setIfInBounds_toArray, List.set_cons_zero, List.set_cons_succ])
      refine wpAnyH_take (i := 6) (oi := ({ dst := some 139, op := Op.move (Operand.tmp 3), type := 2, pos := "outright.go:89", after := #[{ on := 1, ground := Ground.guard }], guard := some (1, true) } : Oper)) (v := ?_) rfl (by kernel_rfl) (by kernel_rfl) (by kernel_rfl) (fun _ _ _ h => h) (Or.inl ⟨by kernel_rfl, ?_⟩) (by assumption) ?_
      rotate_left
      · intro wz hSw; (try dsimp only at hSw); first | (go_simp; done) | (go_simp; with_reducible rfl)
      (try simp only [Act.put, List.setIfInBounds_toArray, List.set_cons_zero, List.set_cons_succ])
      refine wpAnyH_ready (rs := [4]) (by kernel_rfl) (by simp) ?_
      refine AllReadyH.cons (o := _) rfl (fun K hK => ?_) AllReadyH.nil
      go_simp
      go_at_call 21
      with_reducible refine (HM1.out _).mono ?_
      rintro e w' ⟨rfl, hbb⟩
      (try go_wp2_with fail)
      refine hK.out _ _ ?_ (fun hHeld => ?_)
      · (try dsimp only); (first | (go_split_ands; refine ⟨keep_cell (by assumption) (by assumption), keep_cell (by assumption) (by assumption), keep_cell (by assumption) (by assumption), keep_cell (by assumption) (by assumption), bnext (by assumption) (by assumption)⟩) | (refine ⟨?_, ?_, ?_, ?_, ?_⟩ <;> first | (with_reducible assumption) | (go_grown; done) | (simp [go_sem, *]; done)))
      clear hK K
      (try simp only [Act.put, List.setIfInBounds_toArray, List.set_cons_zero, List.set_cons_succ])
      refine wpAnyH_ready (rs := [7]) (by kernel_rfl) (by simp) ?_
      refine AllReadyH.cons (o := _) rfl (fun K hK => ?_) AllReadyH.nil
      go_simp
      go_at_call 21
      with_reducible refine (HM2.out _).mono ?_
      rintro e w' ⟨rfl, hbb⟩
      (try go_wp2_with fail)
      refine hK.out _ _ ?_ (fun hHeld => ?_)
      · (try dsimp only); (first | (go_split_ands; refine ⟨keep_cell (by assumption) (by assumption), keep_cell (by assumption) (by assumption), keep_cell (by assumption) (by assumption), keep_cell (by assumption) (by assumption), bnext (by assumption) (by assumption)⟩) | (refine ⟨?_, ?_, ?_, ?_, ?_⟩ <;> first | (with_reducible assumption) | (go_grown; done) | (simp [go_sem, *]; done)))
      clear hK K
      (try simp only [Act.put, List.setIfInBounds_toArray, List.set_cons_zero, List.set_cons_succ])
      refine wpAnyH_take (i := 8) (oi := ({ dst := some 141, op := Op.binOp BinOp.eql 24 (Operand.tmp 137) (Operand.tmp 140) 24, type := 4, pos := "outright.go:89", after := #[{ on := 4, ground := Ground.data }, { on := 7, ground := Ground.data }, { on := 1, ground := Ground.guard }], guard := some (1, true) } : Oper)) (v := ?_) rfl (by kernel_rfl) (by kernel_rfl) (by kernel_rfl) (fun _ _ _ h => h) (Or.inl ⟨by kernel_rfl, ?_⟩) (by assumption) ?_
      rotate_left
      · intro wz hSw; (try dsimp only at hSw); first | (go_simp; done) | (go_simp; with_reducible rfl)
      (try simp only [Act.put, List.setIfInBounds_toArray, List.set_cons_zero, List.set_cons_succ])
      refine wpAnyH_take (i := 9) (oi := ({ dst := some 142, op := Op.pick (Operand.tmp 134) (Operand.tmp 141) (Operand.const (Value.bool false)), type := 4, pos := "outright.go:89", after := #[{ on := 1, ground := Ground.data }, { on := 8, ground := Ground.data }], guard := none } : Oper)) (v := ?_) rfl (by kernel_rfl) (by kernel_rfl) (by kernel_rfl) (fun _ _ _ h => h) (Or.inl ⟨by kernel_rfl, ?_⟩) (by assumption) ?_
      rotate_left
      · intro wz hSw; (try dsimp only at hSw); first | (go_simp; done) | (go_simp; with_reducible rfl)
      (try simp only [Act.put, List.setIfInBounds_toArray, List.set_cons_zero, List.set_cons_succ])
      refine wpAnyH_take (i := 10) (oi := ({ dst := some 143, op := Op.move (Operand.tmp 142), type := 4, pos := "outright.go:89", after := #[{ on := 9, ground := Ground.data }, { on := 7, ground := Ground.chain }], guard := none } : Oper)) (v := ?_) rfl (by kernel_rfl) (by kernel_rfl) (by kernel_rfl) (fun _ _ _ h => h) (Or.inl ⟨by kernel_rfl, ?_⟩) (by assumption) ?_
      rotate_left
      · intro wz hSw; (try dsimp only at hSw); first | (go_simp; done) | (go_simp; with_reducible rfl)
      (try simp only [Act.put, List.setIfInBounds_toArray, List.set_cons_zero, List.set_cons_succ])
      refine wpAnyH_take (i := 11) (oi := ({ dst := some 144, op := Op.load 24 (Operand.tmp 6), type := 24, pos := "outright.go:89", after := #[{ on := 10, ground := Ground.guard }], guard := some (10, true) } : Oper)) (v := ?_) rfl (by kernel_rfl) (by kernel_rfl) (by kernel_rfl) (fun _ _ _ h => h) (Or.inl ⟨by kernel_rfl, ?_⟩) (by assumption) ?_
      rotate_left
      · intro wz hSw; (try dsimp only at hSw); first | (go_simp; done) | (go_simp; with_reducible rfl)
      (try simp only [Act.put, List.setIfInBounds_toArray, List.set_cons_zero, List.set_cons_succ])
      refine wpAnyH_take (i := 12) (oi := ({ dst := some 145, op := Op.load 24 (Operand.tmp 7), type := 24, pos := "outright.go:89", after := #[{ on := 10, ground := Ground.guard }], guard := some (10, true) } : Oper)) (v := ?_) rfl (by kernel_rfl) (by kernel_rfl) (by kernel_rfl) (fun _ _ _ h => h) (Or.inl ⟨by kernel_rfl, ?_⟩) (by assumption) ?_
      rotate_left
      · intro wz hSw; (try dsimp only at hSw); first | (go_simp; done) | (go_simp; with_reducible rfl)
      (try simp only [Act.put, List.setIfInBounds_toArray, List.set_cons_zero, List.set_cons_succ])
      refine wpAnyH_take (i := 14) (oi := ({ dst := some 147, op := Op.load 24 (Operand.tmp 7), type := 24, pos := "outright.go:89", after := #[{ on := 10, ground := Ground.guard }], guard := some (10, true) } : Oper)) (v := ?_) rfl (by kernel_rfl) (by kernel_rfl) (by kernel_rfl) (fun _ _ _ h => h) (Or.inl ⟨by kernel_rfl, ?_⟩) (by assumption) ?_
      rotate_left
      · intro wz hSw; (try dsimp only at hSw); first | (go_simp; done) | (go_simp; with_reducible rfl)
      (try simp only [Act.put, List.setIfInBounds_toArray, List.set_cons_zero, List.set_cons_succ])
      refine wpAnyH_take (i := 15) (oi := ({ dst := some 148, op := Op.load 24 (Operand.tmp 6), type := 24, pos := "outright.go:89", after := #[{ on := 10, ground := Ground.guard }], guard := some (10, true) } : Oper)) (v := ?_) rfl (by kernel_rfl) (by kernel_rfl) (by kernel_rfl) (fun _ _ _ h => h) (Or.inl ⟨by kernel_rfl, ?_⟩) (by assumption) ?_
      rotate_left
      · intro wz hSw; (try dsimp only at hSw); first | (go_simp; done) | (go_simp; with_reducible rfl)
      (try simp only [Act.put, List.setIfInBounds_toArray, List.set_cons_zero, List.set_cons_succ])
      refine wpAnyH_ready (rs := [13]) (by kernel_rfl) (by simp) ?_
      refine AllReadyH.cons (o := _) rfl (fun K hK => ?_) AllReadyH.nil
      go_simp
      go_at_call 23
      with_reducible refine (HC1.out _).mono ?_
      rintro e w' ⟨rfl, hbb⟩
      (try go_wp2_with fail)
      refine hK.out _ _ ?_ (fun hHeld => ?_)
      · (try dsimp only); (first | (go_split_ands; refine ⟨keep_cell (by assumption) (by assumption), keep_cell (by assumption) (by assumption), keep_cell (by assumption) (by assumption), keep_cell (by assumption) (by assumption), bnext (by assumption) (by assumption)⟩) | (refine ⟨?_, ?_, ?_, ?_, ?_⟩ <;> first | (with_reducible assumption) | (go_grown; done) | (simp [go_sem, *]; done)))
      clear hK K
      (try simp only [Act.put, List.setIfInBounds_toArray, List.set_cons_zero, List.set_cons_succ])
      refine wpAnyH_ready (rs := [16]) (by kernel_rfl) (by simp) ?_
      refine AllReadyH.cons (o := _) rfl (fun K hK => ?_) AllReadyH.nil
      go_simp
      go_at_call 23
      with_reducible refine (HC2.out _).mono ?_
      rintro e w' ⟨rfl, hbb⟩
      (try go_wp2_with fail)
      refine hK.out _ _ ?_ (fun hHeld => ?_)
      · (try dsimp only); (first | (go_split_ands; refine ⟨keep_cell (by assumption) (by assumption), keep_cell (by assumption) (by assumption), keep_cell (by assumption) (by assumption), keep_cell (by assumption) (by assumption), bnext (by assumption) (by assumption)⟩) | (refine ⟨?_, ?_, ?_, ?_, ?_⟩ <;> first | (with_reducible assumption) | (go_grown; done) | (simp [go_sem, *]; done)))
      clear hK K
      (try simp only [Act.put, List.setIfInBounds_toArray, List.set_cons_zero, List.set_cons_succ])
      refine wpAnyH_take (i := 17) (oi := ({ dst := some 150, op := Op.unOp UnOp.neg 3 (Operand.tmp 149), type := 3, pos := "outright.go:89", after := #[{ on := 16, ground := Ground.data }, { on := 10, ground := Ground.guard }], guard := some (10, true) } : Oper)) (v := ?_) rfl (by kernel_rfl) (by kernel_rfl) (by kernel_rfl) (fun _ _ _ h => h) (Or.inl ⟨by kernel_rfl, ?_⟩) (by assumption) ?_
      rotate_left
      · intro wz hSw; (try dsimp only at hSw); first | (go_simp; done) | (go_simp; with_reducible rfl)
      (try simp only [Act.put, List.setIfInBounds_toArray, List.set_cons_zero, List.set_cons_succ])
      refine wpAnyH_take (i := 18) (oi := ({ dst := some 151, op := Op.binOp BinOp.eql 3 (Operand.tmp 146) (Operand.tmp 150) 3, type := 4, pos := "outright.go:89", after := #[{ on := 13, ground := Ground.data }, { on := 17, ground := Ground.data }, { on := 10, ground := Ground.guard }], guard := some (10, true) } : Oper)) (v := ?_) rfl (by kernel_rfl) (by kernel_rfl) (by kernel_rfl) (fun _ _ _ h => h) (Or.inl ⟨by kernel_rfl, ?_⟩) (by assumption) ?_
      rotate_left
      · intro wz hSw; (try dsimp only at hSw); first | (go_simp; done) | (go_simp; with_reducible rfl)
      (try simp only [Act.put, List.setIfInBounds_toArray, List.set_cons_zero, List.set_cons_succ])
      refine wpAnyH_take (i := 19) (oi := ({ dst := some 152, op := Op.pick (Operand.tmp 143) (Operand.tmp 151) (Operand.const (Value.bool false)), type := 4, pos := "outright.go:89", after := #[{ on := 10, ground := Ground.data }, { on := 18, ground := Ground.data }], guard := none } : Oper)) (v := ?_) rfl (by kernel_rfl) (by kernel_rfl) (by kernel_rfl) (fun _ _ _ h => h) (Or.inl ⟨by kernel_rfl, ?_⟩) (by assumption) ?_
      rotate_left
      · intro wz hSw; (try dsimp only at hSw); first | (go_simp; done) | (go_simp; with_reducible rfl)
      (try simp only [Act.put, List.setIfInBounds_toArray, List.set_cons_zero, List.set_cons_succ])
      refine wpAnyH_take (i := 20) (oi := ({ dst := some 153, op := Op.move (Operand.tmp 152), type := 4, pos := "outright.go:89", after := #[{ on := 19, ground := Ground.data }, { on := 16, ground := Ground.chain }], guard := none } : Oper)) (v := ?_) rfl (by kernel_rfl) (by kernel_rfl) (by kernel_rfl) (fun _ _ _ h => h) (Or.inl ⟨by kernel_rfl, ?_⟩) (by assumption) ?_
      rotate_left
      · intro wz hSw; (try dsimp only at hSw); first | (go_simp; done) | (go_simp; with_reducible rfl)
      (try simp only [Act.put, List.setIfInBounds_toArray, List.set_cons_zero, List.set_cons_succ])
      refine wpAnyH_take (i := 21) (oi := ({ dst := some 154, op := Op.move (Operand.tmp 3), type := 2, pos := "outright.go:89", after := #[{ on := 20, ground := Ground.guard }], guard := some (20, true) } : Oper)) (v := ?_) rfl (by kernel_rfl) (by kernel_rfl) (by kernel_rfl) (fun _ _ _ h => h) (Or.inl ⟨by kernel_rfl, ?_⟩) (by assumption) ?_
      rotate_left
      · intro wz hSw; (try dsimp only at hSw); first | (go_simp; done) | (go_simp; with_reducible rfl)
      (try simp only [Act.put, List.setIfInBounds_toArray, List.set_cons_zero, List.set_cons_succ])
      refine wpAnyH_take (i := 22) (oi := ({ dst := some 155, op := Op.binOp BinOp.eql 2 (Operand.tmp 154) (Operand.const (Value.int IntKind.i64 (-9223372036854775808))) 2, type := 4, pos := "outright.go:89", after := #[{ on := 21, ground := Ground.data }, { on := 20, ground := Ground.guard }], guard := some (20, true) } : Oper)) (v := ?_) rfl (by kernel_rfl) (by kernel_rfl) (by kernel_rfl) (fun _ _ _ h => h) (Or.inl ⟨by kernel_rfl, ?_⟩) (by assumption) ?_
      rotate_left
      · intro wz hSw; (try dsimp only at hSw); first | (go_simp; done) | (go_simp; with_reducible rfl)
      (try simp only [Act.put, List.setIfInBounds_toArray, List.set_cons_zero, List.set_cons_succ])
      refine wpAnyH_take (i := 23) (oi := ({ dst := some 156, op := Op.move (Operand.tmp 155), type := 4, pos := "outright.go:89", after := #[{ on := 22, ground := Ground.data }, { on := 20, ground := Ground.chain }, { on := 20, ground := Ground.guard }], guard := some (20, true) } : Oper)) (v := ?_) rfl (by kernel_rfl) (by kernel_rfl) (by kernel_rfl) (fun _ _ _ h => h) (Or.inl ⟨by kernel_rfl, ?_⟩) (by assumption) ?_
      rotate_left
      · intro wz hSw; (try dsimp only at hSw); first | (go_simp; done) | (go_simp; with_reducible rfl)
      (try simp only [Act.put, List.setIfInBounds_toArray, List.set_cons_zero, List.set_cons_succ])
      refine wpAnyH_take (i := 24) (oi := ({ dst := some 157, op := Op.move (Operand.tmp 3), type := 2, pos := "outright.go:89", after := #[{ on := 23, ground := Ground.guard }], guard := some (23, false) } : Oper)) (v := undef) rfl (by kernel_rfl) (by kernel_rfl) (by kernel_rfl) (fun _ _ _ h => h) (Or.inr ⟨by kernel_rfl, rfl⟩) (by assumption) ?_
      (try simp only [Act.put, List.setIfInBounds_toArray, List.set_cons_zero, List.set_cons_succ])
      refine wpAnyH_take (i := 25) (oi := ({ dst := some 158, op := Op.unOp UnOp.neg 2 (Operand.tmp 157), type := 2, pos := "outright.go:89", after := #[{ on := 24, ground := Ground.data }, { on := 23, ground := Ground.guard }], guard := some (23, false) } : Oper)) (v := undef) rfl (by kernel_rfl) (by kernel_rfl) (by kernel_rfl) (fun _ _ _ h => h) (Or.inr ⟨by kernel_rfl, rfl⟩) (by assumption) ?_
      (try simp only [Act.put, List.setIfInBounds_toArray, List.set_cons_zero, List.set_cons_succ])
      refine wpAnyH_take (i := 26) (oi := ({ dst := some 159, op := Op.move (Operand.tmp 4), type := 2, pos := "outright.go:89", after := #[{ on := 23, ground := Ground.guard }], guard := some (23, false) } : Oper)) (v := undef) rfl (by kernel_rfl) (by kernel_rfl) (by kernel_rfl) (fun _ _ _ h => h) (Or.inr ⟨by kernel_rfl, rfl⟩) (by assumption) ?_
      (try simp only [Act.put, List.setIfInBounds_toArray, List.set_cons_zero, List.set_cons_succ])
      refine wpAnyH_take (i := 27) (oi := ({ dst := some 160, op := Op.call { callee := Callee.value (Operand.func 21), args := #[Operand.tmp 158, Operand.tmp 159], argTypes := #[2, 2] }, type := 24, pos := "outright.go:89", after := #[{ on := 25, ground := Ground.data }, { on := 26, ground := Ground.data }, { on := 23, ground := Ground.chain }, { on := 23, ground := Ground.guard }], guard := some (23, false) } : Oper)) (v := undef) rfl (by kernel_rfl) (by kernel_rfl) (by kernel_rfl) (fun _ _ _ h => h) (Or.inr ⟨by kernel_rfl, rfl⟩) (by assumption) ?_
      (try simp only [Act.put, List.setIfInBounds_toArray, List.set_cons_zero, List.set_cons_succ])
      refine wpAnyH_take (i := 28) (oi := ({ dst := some 161, op := Op.move (Operand.tmp 4), type := 2, pos := "outright.go:89", after := #[{ on := 23, ground := Ground.guard }], guard := some (23, false) } : Oper)) (v := undef) rfl (by kernel_rfl) (by kernel_rfl) (by kernel_rfl) (fun _ _ _ h => h) (Or.inr ⟨by kernel_rfl, rfl⟩) (by assumption) ?_
      (try simp only [Act.put, List.setIfInBounds_toArray, List.set_cons_zero, List.set_cons_succ])
      refine wpAnyH_take (i := 29) (oi := ({ dst := some 162, op := Op.move (Operand.tmp 3), type := 2, pos := "outright.go:89", after := #[{ on := 23, ground := Ground.guard }], guard := some (23, false) } : Oper)) (v := undef) rfl (by kernel_rfl) (by kernel_rfl) (by kernel_rfl) (fun _ _ _ h => h) (Or.inr ⟨by kernel_rfl, rfl⟩) (by assumption) ?_
      (try simp only [Act.put, List.setIfInBounds_toArray, List.set_cons_zero, List.set_cons_succ])
      refine wpAnyH_take (i := 30) (oi := ({ dst := some 163, op := Op.unOp UnOp.neg 2 (Operand.tmp 162), type := 2, pos := "outright.go:89", after := #[{ on := 29, ground := Ground.data }, { on := 23, ground := Ground.guard }], guard := some (23, false) } : Oper)) (v := undef) rfl (by kernel_rfl) (by kernel_rfl) (by kernel_rfl) (fun _ _ _ h => h) (Or.inr ⟨by kernel_rfl, rfl⟩) (by assumption) ?_
      (try simp only [Act.put, List.setIfInBounds_toArray, List.set_cons_zero, List.set_cons_succ])
      refine wpAnyH_take (i := 31) (oi := ({ dst := some 164, op := Op.call { callee := Callee.value (Operand.func 21), args := #[Operand.tmp 161, Operand.tmp 163], argTypes := #[2, 2] }, type := 24, pos := "outright.go:89", after := #[{ on := 28, ground := Ground.data }, { on := 30, ground := Ground.data }, { on := 27, ground := Ground.chain }, { on := 23, ground := Ground.guard }], guard := some (23, false) } : Oper)) (v := undef) rfl (by kernel_rfl) (by kernel_rfl) (by kernel_rfl) (fun _ _ _ h => h) (Or.inr ⟨by kernel_rfl, rfl⟩) (by assumption) ?_
      (try simp only [Act.put, List.setIfInBounds_toArray, List.set_cons_zero, List.set_cons_succ])
      refine wpAnyH_take (i := 32) (oi := ({ dst := some 165, op := Op.binOp BinOp.eql 24 (Operand.tmp 160) (Operand.tmp 164) 24, type := 4, pos := "outright.go:89", after := #[{ on := 27, ground := Ground.data }, { on := 31, ground := Ground.data }, { on := 23, ground := Ground.guard }], guard := some (23, false) } : Oper)) (v := undef) rfl (by kernel_rfl) (by kernel_rfl) (by kernel_rfl) (fun _ _ _ h => h) (Or.inr ⟨by kernel_rfl, rfl⟩) (by assumption) ?_
      (try simp only [Act.put, List.setIfInBounds_toArray, List.set_cons_zero, List.set_cons_succ])
      refine wpAnyH_take (i := 33) (oi := ({ dst := some 166, op := Op.pick (Operand.tmp 156) (Operand.const (Value.bool true)) (Operand.tmp 165), type := 4, pos := "outright.go:89", after := #[{ on := 23, ground := Ground.data }, { on := 32, ground := Ground.data }, { on := 20, ground := Ground.guard }], guard := some (20, true) } : Oper)) (v := ?_) rfl (by kernel_rfl) (by kernel_rfl) (by kernel_rfl) (fun _ _ _ h => h) (Or.inl ⟨by kernel_rfl, ?_⟩) (by assumption) ?_
      rotate_left
      · intro wz hSw; (try dsimp only at hSw); first | (go_simp; done) | (go_simp; with_reducible rfl)
      (try simp only [Act.put, List.setIfInBounds_toArray, List.set_cons_zero, List.set_cons_succ])
      refine wpAnyH_take (i := 34) (oi := ({ dst := some 167, op := Op.pick (Operand.tmp 153) (Operand.tmp 166) (Operand.const (Value.bool false)), type := 4, pos := "outright.go:89", after := #[{ on := 20, ground := Ground.data }, { on := 33, ground := Ground.data }], guard := none } : Oper)) (v := ?_) rfl (by kernel_rfl) (by kernel_rfl) (by kernel_rfl) (fun _ _ _ h => h) (Or.inl ⟨by kernel_rfl, ?_⟩) (by assumption) ?_
      rotate_left
      · intro wz hSw; (try dsimp only at hSw); first | (go_simp; done) | (go_simp; with_reducible rfl)
      (try simp only [Act.put, List.setIfInBounds_toArray, List.set_cons_zero, List.set_cons_succ])
      refine wpAnyH_take (i := 35) (oi := ({ dst := some 12, op := Op.assign (Operand.tmp 167), type := 4, pos := "outright.go:89", after := #[{ on := 34, ground := Ground.data }, { on := 31, ground := Ground.chain }, { on := 0, ground := Ground.phase }, { on := 1, ground := Ground.phase }, { on := 2, ground := Ground.phase }, { on := 3, ground := Ground.phase }, { on := 4, ground := Ground.phase }, { on := 5, ground := Ground.phase }, { on := 6, ground := Ground.phase }, { on := 7, ground := Ground.phase }, { on := 8, ground := Ground.phase }, { on := 9, ground := Ground.phase }, { on := 10, ground := Ground.phase }, { on := 11, ground := Ground.phase }, { on := 12, ground := Ground.phase }, { on := 13, ground := Ground.phase }, { on := 14, ground := Ground.phase }, { on := 15, ground := Ground.phase }, { on := 16, ground := Ground.phase }, { on := 17, ground := Ground.phase }, { on := 18, ground := Ground.phase }, { on := 19, ground := Ground.phase }, { on := 20, ground := Ground.phase }, { on := 21, ground := Ground.phase }, { on := 22, ground := Ground.phase }, { on := 23, ground := Ground.phase }, { on := 24, ground := Ground.phase }, { on := 25, ground := Ground.phase }, { on := 26, ground := Ground.phase }, { on := 27, ground := Ground.phase }, { on := 28, ground := Ground.phase }, { on := 29, ground := Ground.phase }, { on := 30, ground := Ground.phase }, { on := 31, ground := Ground.phase }, { on := 32, ground := Ground.phase }, { on := 33, ground := Ground.phase }, { on := 34, ground := Ground.phase }], guard := none } : Oper)) (v := ?_) rfl (by kernel_rfl) (by kernel_rfl) (by kernel_rfl) (fun _ _ _ h => h) (Or.inl ⟨by kernel_rfl, ?_⟩) (by assumption) ?_
      rotate_left
      · intro wz hSw; (try dsimp only at hSw); first | (go_simp; done) | (go_simp; with_reducible rfl)
      (try simp only [Act.put, List.setIfInBounds_toArray, List.set_cons_zero, List.set_cons_succ])
      refine wpAnyH_done (by kernel_rfl) ?_ _
      go_split_ands
      go_wp2
      go_ret
      exact ⟨rfl, by (repeat' (first | (with_reducible exact Below.refl _ _) | (with_reducible assumption) | (with_reducible refine Below.drew ?_) | (with_reducible refine Below.setCell ?_ ?_ _) | (with_reducible refine bnext ?_ (by assumption)) | (with_reducible refine Below.alloc ?_ ?_ _) | go_size))⟩
    · have ta : (a == -9223372036854775808) = false := by simpa using ha
      have HM5 := Lib.hid (HM3.out ha)
      have HM6 := Lib.hid (HM4.out ha)
      clear HM3 HM4 ha
      go_wp2_with fail
      go_region_held3 (fun w' => w'.cell? ⟨w.heap.size, 0, none⟩ = some (.int .i64 xh) ∧ w'.cell? ⟨w.heap.size, 1, none⟩ = some (.int .u64 xl) ∧ w'.cell? ⟨w.heap.size + 1, 0, none⟩ = some (.int .i64 yh) ∧ w'.cell? ⟨w.heap.size + 1, 1, none⟩ = some (.int .u64 yl) ∧ Below w.heap.size w w')
        (first | (go_split_ands; refine ⟨keep_cell (by assumption) (by assumption), keep_cell (by assumption) (by assumption), keep_cell (by assumption) (by assumption), keep_cell (by assumption) (by assumption), bnext (by assumption) (by assumption)⟩) | (refine ⟨?_, ?_, ?_, ?_, ?_⟩ <;> first | (with_reducible assumption) | (go_grown; done) | (simp [go_sem, *]; done)))
        ((first | (go_at_call 21; (with_reducible refine (HM1.out _).mono ?_); rintro e w' ⟨rfl, hbb⟩) | (go_at_call 21; (with_reducible refine (HM2.out _).mono ?_); rintro e w' ⟨rfl, hbb⟩) | (go_at_call 23; (with_reducible refine (HC1.out _).mono ?_); rintro e w' ⟨rfl, hbb⟩) | (go_at_call 23; (with_reducible refine (HC2.out _).mono ?_); rintro e w' ⟨rfl, hbb⟩) | (go_at_call 21; (with_reducible refine (HM5.out _).mono ?_); rintro e w' ⟨rfl, hbb⟩) | (go_at_call 21; (with_reducible refine (HM6.out _).mono ?_); rintro e w' ⟨rfl, hbb⟩)))
      go_split_ands
      go_wp2
      go_ret
      exact ⟨rfl, by (repeat' (first | (with_reducible exact Below.refl _ _) | (with_reducible assumption) | (with_reducible refine Below.drew ?_) | (with_reducible refine Below.setCell ?_ ?_ _) | (with_reducible refine bnext ?_ (by assumption)) | (with_reducible refine Below.alloc ?_ ?_ _) | go_size))⟩
end Go.Proofs.Ytknggdlhndffeaa.Fx
