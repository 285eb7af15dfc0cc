/- The reference's quotient, walked: bit by bit. -/
import Derived.Test.YtabfdhecbbemjaaProg
import Derived.Test.YtabfdhecbbemjaaFx4
import Derived.Test.YtabfdhecbbemjaaRef
import Derived.WalkKit
import Derived.Outline
import Derived.Deep.DeepCutAuto
import Derived.Deep.CutBlock
import Derived.Deep.LoopGhost
import Derived.Deep.QuietTactic
import Derived.BigQuiet
import Derived.Lib.Hide
set_option linter.unusedVariables false
set_option linter.unusedSimpArgs false
namespace Go.Proofs.Ytabfdhecbbemjaa.Fx
open Go.RowKit
/-- the numbers, so that the divisor is above 0 -/
def DSign (a b x y : Int) : Prop := Fm.dn (a * 65536) b = x * 65536 / y ∧ (-4611686018427387904 ≤ x ∧ x ≤ 4611686018427387904) ∧ 1 ≤ y ∧ y ≤ 4611686018427387904
def DInv (x y : Int) (i : Nat) (q r : Int) : Prop := q * y + r = x * ((2 ^ i : Nat) : Int) ∧ (0 ≤ r ∧ r < y) ∧ -4700000000000000000 ≤ q ∧ q ≤ 4700000000000000000
theorem div_end' {x y q r : Int} (h : q * y + r = x * ((2 ^ 16 : Nat) : Int)) (r0 : 0 ≤ r) (r1 : r < y) : x * 65536 / y = q := by
  refine ((Int.ediv_emod_unique (r := r) (show 0 < y by omega)).2 ⟨?_, r0, r1⟩).1
  rw [show ((2 ^ 16 : Nat) : Int) = 65536 from rfl, Int.mul_comm q] at h
  omega
theorem pow_split {i : Nat} (hi : i < 16) : ∃ k : Nat, 1 ≤ k ∧ 65536 = 2 ^ i * (2 * k) := by
  refine ⟨2 ^ (15 - i), Nat.two_pow_pos _, ?_⟩
  have h : (2 : Nat) * 2 ^ (15 - i) = 2 ^ (16 - i) := by rw [Nat.mul_comm, ← Nat.pow_succ]; congr 1; omega
  rw [h, ← Nat.pow_add, show i + (16 - i) = 16 from by omega]
theorem div_over {x y q r : Int} {i : Nat} (hi : i < 16) (hy : 1 ≤ y) (h : q * y + r = x * ((2 ^ i : Nat) : Int)) (r0 : 0 ≤ r) (r1 : r < y) (hbig : 2305843009213693952 < q ∨ q < -2305843009213693952) : Fm.mayB (x * 65536 / y) = false := by
  obtain ⟨k, hk, e⟩ := pow_split hi
  have ez : x * 65536 = x * ((2 ^ i : Nat) : Int) * ((2 : Int) * (k : Int)) := by
    rw [Int.mul_assoc]; congr 1
    have : ((65536 : Nat) : Int) = ((2 ^ i * (2 * k) : Nat) : Int) := by rw [← e]
    rw [Int.natCast_mul, Int.natCast_mul] at this
    exact this
  rw [Fm.may_not, ez, ← h]
  have hk1 : (2 : Int) ≤ 2 * (k : Int) := by omega
  generalize (2 : Int) * (k : Int) = m at *
  have hy0 : 0 < y := by omega
  rcases hbig with hq | hq
  · right
    have h1 : 2305843009213693953 * y ≤ q * y := Int.mul_le_mul_of_nonneg_right (by omega) (by omega)
    have h2 : 0 ≤ q * y + r := by omega
    have h3 := Int.mul_le_mul_of_nonneg_left hk1 h2
    have h4 : 4611686018427387905 * y ≤ (q * y + r) * m := by omega
    have h5 := (Int.le_ediv_iff_mul_le hy0).2 h4
    omega
  · left
    have h1 : (q + 1) * y ≤ -2305843009213693952 * y := Int.mul_le_mul_of_nonneg_right (by omega) (by omega)
    rw [Int.add_mul, Int.one_mul] at h1
    have h2 : q * y + r ≤ 0 := by omega
    have h3 := Int.mul_le_mul_of_nonpos_left h2 hk1
    have h4 : (q * y + r) * m < -4611686018427387904 * y := by omega
    exact (Int.ediv_lt_iff_lt_mul hy0).2 h4
theorem div_up {x y q r : Int} {i : Nat} (h : q * y + r = x * ((2 ^ i : Nat) : Int)) : (2 * q + 1) * y + (r - (y - r)) = x * ((2 ^ (i + 1) : Nat) : Int) ∧ (2 * q) * y + (r + r) = x * ((2 ^ (i + 1) : Nat) : Int) := by
  have e : x * ((2 ^ (i + 1) : Nat) : Int) = 2 * (x * ((2 ^ i : Nat) : Int)) := by
    rw [Nat.pow_succ, Nat.mul_comm, Int.natCast_mul, Int.mul_left_comm]; rfl
  rw [e, ← h, Int.add_mul, Int.mul_assoc]
  omega
theorem dsign_neg {a b : Int} (h : b < 0) : Fm.dn (a * 65536) b = -a * 65536 / -b := by
  unfold Fm.dn; rw [if_neg (by omega), Int.neg_mul]
theorem dsign_pos {a b : Int} (h : 0 < b) : Fm.dn (a * 65536) b = a * 65536 / b := by
  unfold Fm.dn; rw [if_pos h]

set_option maxHeartbeats 1600000 in
theorem rdiv_in (a b : Int) (w : World) (hz : b ≠ 0) (ha : Fm.mayB a = true) (hb : Fm.mayB b = true) :
    Calls Try.prog 22 #[.int .i64 a, .int .i64 b] w fun e w' => e = .returned (.tuple #[.int .i64 (Fm.ovV a b (Fm.dn (a * 65536) b)), .int .i64 (Fm.ovE a b (Fm.dn (a * 65536) b))]) ∧ w = w' := by
  have A := rmay_any a
  have B := rmay_any b
  rw [ha] at A
  rw [hb] at B
  obtain ⟨a0, a1⟩ := (Fm.may_iff a).1 ha
  obtain ⟨b0, b1⟩ := (Fm.may_iff b).1 hb
  have tz : (b == 0) = false := by simp; omega
  generalize hv : Fm.ovV a b (Fm.dn (a * 65536) b) = v
  generalize he : Fm.ovE a b (Fm.dn (a * 65536) b) = x0'
  have Hv := Lib.hid hv; clear hv
  have He := Lib.hid he; clear he
  have Ha := Lib.hid ha; clear ha
  have Hb := Lib.hid hb; clear hb
  have Hz := Lib.hid hz; clear hz
  go_enter Try.func22, Try.ntmps22
  go_wp2_with fail
  refine (A _).mono ?_
  rintro e w' ⟨rfl, rfl⟩
  go_wp2_with fail
  refine (B _).mono ?_
  rintro e w' ⟨rfl, rfl⟩
  go_upto_if 25 with fail
  go_cut [0, 1] (fun s0 s1 wx => ∃ x y : Int, s0 = .int .i64 x ∧ s1 = .int .i64 y ∧ DSign a b x y ∧ w = wx)
  case first =>
    by_cases hneg : b < 0
    · go_wp2_with fail
      go_meet
      case rel => exact ⟨-a, -b, rfl, rfl, ⟨dsign_neg hneg, by omega, by omega⟩, rfl⟩
    · go_wp2_with fail
      go_meet
      case rel => exact ⟨a, b, rfl, rfl, ⟨dsign_pos (by have := Hz.out; omega), by omega, by have := Hz.out; omega⟩, rfl⟩
  case rest =>
    obtain ⟨x, y, rfl, rfl, HS, rfl⟩ := hcut
    obtain ⟨hS1, ⟨x0, x1⟩, y0, y1⟩ := HS
    have HS1 := Lib.hid hS1; clear hS1
    clear a0 a1 b0 b1 A B tz
    have dA := down_any x y
    have hm0 := Int.emod_nonneg x (show y ≠ 0 by omega)
    have hm1 := Int.emod_lt_of_pos x (show 0 < y by omega)
    have hd := Int.mul_ediv_add_emod x y
    have hq1 : -4611686018427387904 ≤ x / y := (Int.le_ediv_iff_mul_le (by omega)).2 (by omega)
    have hq2 : x / y ≤ 4611686018427387904 := by
      by_cases h : 0 ≤ x
      · have := Int.ediv_le_self y h; omega
      · have : x / y < 1 := (Int.ediv_lt_iff_lt_mul (by omega)).2 (by omega)
        omega
    generalize x / y = q at *
    generalize x % y = r at *
    have HI : DInv x y 0 q r := ⟨by rw [Int.mul_comm] at hd; simp; omega, ⟨hm0, hm1⟩, by omega, by omega⟩
    clear hm0 hm1 hd hq1 hq2
    go_wp2_with fail
    refine (dA _ (by omega) (by omega) (by omega) (by omega)).mono ?_
    rintro e w' ⟨rfl, rfl⟩
    go_wp2_with fail
    go_loopg [8, 9, 10] 16 (fun g s10 s11 s12 wx => ∃ (q r : Int) (i : Nat), s10 = .int .i64 q ∧ s11 = .int .i64 r ∧ s12 = .int .i64 (i : Int) ∧ DInv x y i q r ∧ i ≤ 16 ∧ g = 16 - i ∧ w = wx)
    case atStart => exact ⟨q, r, 0, rfl, rfl, rfl, HI, by omega, rfl, rfl⟩
    case round =>
      clear HI dA
      obtain ⟨q, r, i, rfl, rfl, rfl, HI, hi, rfl, rfl⟩ := hrel
      obtain ⟨hI, ⟨r0', r1'⟩, q0', q1'⟩ := HI
      by_cases hlast : i = 16
      · subst hlast
        have hdn := div_end' hI r0' r1'
        rw [← HS1.out] at hdn
        have C := rmay_any q
        have hv := Hv.out
        have he := He.out
        rw [hdn] at hv he
        have hh : (if Fm.mayB q = true then q else 0) = v ∧ (if Fm.mayB q = true then (0 : Int) else 10) = x0' := by
          unfold Fm.ovV at hv
          unfold Fm.ovE at he
          rw [Ha.out, Hb.out] at hv he
          simp only [Bool.true_and] at hv he
          exact ⟨hv, he⟩
        clear hI hv he hdn
        obtain ⟨h1, h2⟩ := hh
        cases hm : Fm.mayB q with
        | true =>
          rw [hm] at C h1 h2
          rw [if_pos rfl] at h1 h2
          subst h1 h2
          go_wp2_with fail
          refine (C _).mono ?_
          rintro e w' ⟨rfl, rfl⟩
          go_wp2_with fail
          go_ret2
          exact ⟨rfl, rfl⟩
        | false =>
          rw [hm] at C h1 h2
          rw [if_neg (by simp)] at h1 h2
          subst h1 h2
          go_wp2_with fail
          refine (C _).mono ?_
          rintro e w' ⟨rfl, rfl⟩
          go_wp2_with fail
          go_ret2
          exact ⟨rfl, rfl⟩
      · have hi16 : i < 16 := by omega
        by_cases hbig : 2305843009213693952 < q ∨ q < -2305843009213693952
        · have hm := div_over hi16 y0 hI r0' r1' hbig
          rw [← HS1.out] at hm
          have ho : (Fm.mayB a && Fm.mayB b && Fm.mayB (Fm.dn (a * 65536) b)) = false := by rw [hm]; simp
          have h1 := Hv.out
          have h2 := He.out
          rw [(ov_out ho).1] at h1
          rw [(ov_out ho).2] at h2
          clear hI hm ho
          subst h1 h2
          by_cases t1 : 2305843009213693952 < q
          · clear hbig
            go_wp2_with fail
            go_ret2
            exact ⟨rfl, rfl⟩
          · have t2 : q < -2305843009213693952 := by omega
            clear hbig
            go_wp2_with fail
            go_ret2
            exact ⟨rfl, rfl⟩
        · have t1 : ¬ 2305843009213693952 < q := by omega
          have t2 : ¬ q < -2305843009213693952 := by omega
          have t1' : q ≤ 2305843009213693952 := by omega
          have t2' : -2305843009213693952 ≤ q := by omega
          have U := div_up hI
          have HU1 := Lib.hid U.1
          have HU2 := Lib.hid U.2
          clear hI U hbig hlast
          by_cases ht : y - r ≤ r
          · go_wp2_with fail
            go_roundg (16 - (i + 1))
            case measure => omega
            case rel => exact ⟨2 * q + 1, r - (y - r), i + 1, rfl, rfl, by go_num, ⟨HU1.out, by omega, by omega, by omega⟩, by omega, rfl, rfl⟩
          · have ht' : r < y - r := by omega
            go_wp2_with fail
            go_roundg (16 - (i + 1))
            case measure => omega
            case rel => exact ⟨2 * q, r + r, i + 1, rfl, by first | rfl | (congr 1; omega), by go_num, ⟨HU2.out, by omega, by omega, by omega⟩, by omega, rfl, rfl⟩
end Go.Proofs.Ytabfdhecbbemjaa.Fx
