/- The reference's product, walked: bit by bit. -/
import Derived.Test.YtabfdhecbbemjaaProg
import Derived.Test.YtabfdhecbbemjaaFx4
import Derived.Test.YtabfdhecbbemjaaRef
import Derived.WalkKit
import Derived.Outline
import Derived.Deep.DeepCutAuto
import Derived.Deep.CutBlock
import Derived.Deep.LoopGhost
import Derived.Deep.QuietTactic
import Derived.BigQuiet
import Derived.Lib.Hide
set_option linter.unusedVariables false
set_option linter.unusedSimpArgs false
namespace Go.Proofs.Ytabfdhecbbemjaa.Fx
open Go.RowKit
theorem i64_bit (N J n : Nat) (hN : N ≤ 4611686018427387904) (h : N / 2 ^ J % 2 = n) : bits .and .i64 ((N : Int) / 2 ^ J) 1 = (n : Int) := by
  have hd : N / 2 ^ J ≤ 4611686018427387904 := Nat.le_trans (Nat.div_le_self _ _) hN
  rw [show ((N : Int) / 2 ^ J) = ((N / 2 ^ J : Nat) : Int) from by simp]
  generalize N / 2 ^ J = X at *
  have hx : X &&& 1 = X % 2 := Nat.and_two_pow_sub_one_eq_mod X 1
  have e : ((BitVec.ofInt 64 (X : Int) &&& BitVec.ofInt 64 (1 : Int)).toNat) = n := by
    rw [BitVec.toNat_and, ofInt_u64 X (by omega), show BitVec.ofInt 64 (1 : Int) = BitVec.ofInt 64 ((1 : Nat) : Int) from rfl, ofInt_u64 1 (by omega), hx, h]
  show IntKind.i64.wrap ((BitVec.ofInt 64 (X : Int) &&& BitVec.ofInt 64 (1 : Int)).toNat : Int) = _
  rw [e]
  exact IntWalk.i64_in _ ⟨by omega, by omega⟩
theorem half_next (N J : Nat) : N / 2 ^ J = 2 * (N / 2 ^ (J + 1)) + N / 2 ^ J % 2 := by
  have : N / 2 ^ (J + 1) = N / 2 ^ J / 2 := by rw [Nat.pow_succ, Nat.div_div_eq_div_mul]
  rw [this]; omega
/-- the factors, so that the second is not below 0 -/
def SignFix (a b x : Int) (B : Nat) : Prop := x * B = a * b ∧ (-4611686018427387904 ≤ x ∧ x ≤ 4611686018427387904) ∧ B ≤ 4611686018427387904
/-- what the bits from I on have come to -/
def MulInv (x : Int) (B I : Nat) (q r : Int) : Prop := q * 65536 + r = x * ((B / 2 ^ I : Nat) : Int) ∧ (0 ≤ r ∧ r < 65536) ∧ -4700000000000000000 ≤ q ∧ q ≤ 4700000000000000000
def BitIs (B J : Nat) (n : Nat) : Prop := B / 2 ^ J % 2 = n
/-- what is being carried over -/
def Carry (S q r : Int) (k : Nat) : Prop := q * 65536 + r = S ∧ (0 ≤ r ∧ r < (3 - (k : Int)) * 65536) ∧ -4650000000000000000 ≤ q ∧ q + r ≤ 4650000000000000000 ∧ k ≤ 3

theorem carry_start {x aq ar q r : Int} {N J n : Nat} (Hx : x = aq * 65536 + ar) (HI : q * 65536 + r = x * ((N / 2 ^ (J + 1) : Nat) : Int)) (hb : BitIs N J n) :
    (2 * q + (n : Int) * aq) * 65536 + (2 * r + (n : Int) * ar) = x * ((N / 2 ^ J : Nat) : Int) := by
  have h := half_next N J
  rw [hb] at h
  rw [h]
  have e1 : (aq * 65536 + ar) * (n : Int) = (n : Int) * aq * 65536 + (n : Int) * ar := by rw [Int.add_mul, Int.mul_right_comm, Int.mul_comm aq, Int.mul_comm ar]
  have e2 : x * (((2 : Nat) : Int) * ((N / 2 ^ (J + 1) : Nat) : Int)) = 2 * (x * ((N / 2 ^ (J + 1) : Nat) : Int)) := by rw [Int.mul_left_comm]; rfl
  rw [Int.natCast_add, Int.natCast_mul, Int.mul_add, e2, ← HI, Hx, e1]
  generalize (n : Int) * aq = k
  generalize (n : Int) * ar = l
  omega
theorem mul_end {a b x q r : Int} {N : Nat} (HS : x * N = a * b) (HI : q * 65536 + r = x * ((N / 2 ^ 0 : Nat) : Int)) (r0 : 0 ≤ r) (r1 : r < 65536) : Fm.dn (a * b) 65536 = q := by
  unfold Fm.dn
  rw [if_pos (by omega), ← HS]
  rw [Nat.pow_zero, Nat.div_one] at HI
  omega
theorem mul_over {a b x q r : Int} {N J : Nat} (HS : x * N = a * b) (HI : q * 65536 + r = x * ((N / 2 ^ (J + 1) : Nat) : Int)) (r0 : 0 ≤ r) (r1 : r < 65536) (hbig : 2305843009213693952 < q ∨ q < -2305843009213693952) : Fm.mayB (Fm.dn (a * b) 65536) = false := by
  rw [Fm.may_not]
  unfold Fm.dn
  rw [if_pos (by omega), ← HS]
  have h2 : 2 * (N / 2 ^ (J + 1)) ≤ N := by
    have := half_next N J
    have := Nat.div_le_self N (2 ^ J)
    omega
  have h3 : (2 : Int) * ((N / 2 ^ (J + 1) : Nat) : Int) ≤ (N : Int) := by omega
  have e : x * (2 * ((N / 2 ^ (J + 1) : Nat) : Int)) = 2 * (x * ((N / 2 ^ (J + 1) : Nat) : Int)) := by rw [Int.mul_left_comm]
  have hT : 0 ≤ ((N / 2 ^ (J + 1) : Nat) : Int) := by omega
  generalize ((N / 2 ^ (J + 1) : Nat) : Int) = T at *
  by_cases hx : 0 ≤ x
  · have h4 := Int.mul_le_mul_of_nonneg_left h3 hx
    have h5 := Int.mul_nonneg hx hT
    rw [e] at h4
    omega
  · have h4 := Int.mul_le_mul_of_nonpos_left (show x ≤ 0 by omega) h3
    have h5 : x * T ≤ 0 := Int.mul_nonpos_of_nonpos_of_nonneg (show x ≤ 0 by omega) hT
    rw [e] at h4
    omega
theorem rmul_in (a b : Int) (w : World) (ha : Fm.mayB a = true) (hb : Fm.mayB b = true) :
    Calls Try.prog 20 #[.int .i64 a, .int .i64 b] w fun e w' => e = .returned (.tuple #[.int .i64 (Fm.ovV a b (Fm.dn (a * b) 65536)), .int .i64 (Fm.ovE a b (Fm.dn (a * b) 65536))]) ∧ ∃ n, w' = w.drewN n := by
  have A := rmay_any a
  have B := rmay_any b
  rw [ha] at A
  rw [hb] at B
  obtain ⟨a0, a1⟩ := (Fm.may_iff a).1 ha
  obtain ⟨b0, b1⟩ := (Fm.may_iff b).1 hb
  generalize hv : Fm.ovV a b (Fm.dn (a * b) 65536) = v
  generalize he : Fm.ovE a b (Fm.dn (a * b) 65536) = x0'
  have Hv := Lib.hid hv; clear hv
  have He := Lib.hid he; clear he
  have Ha := Lib.hid ha; clear ha
  have Hb := Lib.hid hb; clear hb
  go_enter Try.func20, Try.ntmps20
  go_wp2_with fail
  refine (A _).mono ?_
  rintro e w' ⟨rfl, rfl⟩
  go_wp2_with fail
  refine (B _).mono ?_
  rintro e w' ⟨rfl, rfl⟩
  go_upto_if 26 with fail
  go_cut [0, 1] (fun s0 s1 wx => ∃ (x : Int) (N : Nat), s0 = .int .i64 x ∧ s1 = .int .i64 (N : Int) ∧ SignFix a b x N ∧ w = wx)
  case first =>
    by_cases hneg : b < 0
    · go_wp2_with fail
      go_meet
      case rel => exact ⟨-a, b.natAbs, rfl, by rw [show -b = ((b.natAbs : Nat) : Int) from by omega], ⟨by rw [show ((b.natAbs : Nat) : Int) = -b from by omega]; simp [Int.neg_mul, Int.mul_neg], by omega, by omega⟩, rfl⟩
    · go_wp2_with fail
      go_meet
      case rel => exact ⟨a, b.natAbs, rfl, by rw [show b = ((b.natAbs : Nat) : Int) from by omega]; simp, ⟨by rw [show ((b.natAbs : Nat) : Int) = b from by omega], by omega, by omega⟩, rfl⟩
  case rest =>
    obtain ⟨x, N, rfl, rfl, HS, rfl⟩ := hcut
    obtain ⟨hS1, ⟨x0, x1⟩, hN⟩ := HS
    have HS1 := Lib.hid hS1; clear hS1
    clear a0 a1 b0 b1 A B
    have dA := down_any x 65536
    obtain ⟨aq, hq⟩ : ∃ aq, x / 65536 = aq := ⟨_, rfl⟩
    obtain ⟨ar, hr⟩ : ∃ ar, x % 65536 = ar := ⟨_, rfl⟩
    have q0 : -70368744177664 ≤ aq := by omega
    have q1 : aq ≤ 70368744177664 := by omega
    have r0 : 0 ≤ ar := by omega
    have r1 : ar < 65536 := by omega
    rw [hq, hr] at dA
    have Hx : Hid (x = aq * 65536 + ar) := Lib.hid (by omega)
    clear hq hr
    go_wp2_with fail
    refine (dA _ (by omega) (by omega) (by omega) (by omega)).mono ?_
    rintro e w' ⟨rfl, rfl⟩
    go_wp2_with fail
    go_loopg [10, 11, 12] 63 (fun g s10 s11 s12 wx => ∃ (q r : Int), s10 = .int .i64 q ∧ s11 = .int .i64 r ∧ s12 = .int .i64 ((g : Int) - 1) ∧ MulInv x N g q r ∧ g ≤ 63 ∧ w = wx)
    case atStart =>
      exact ⟨0, 0, rfl, rfl, rfl, ⟨by rw [show N / 2 ^ 63 = 0 from Nat.div_eq_of_lt (by omega)]; simp, by omega, by omega⟩, by omega, rfl⟩
    case round =>
      obtain ⟨q, r, rfl, rfl, rfl, HI, hg, rfl⟩ := hrel
      cases gk with
      | zero =>
        obtain ⟨hI, ⟨r0', r1'⟩, q0', q1'⟩ := HI
        have hdn := mul_end HS1.out hI r0' r1'
        have C := rmay_any q
        have hv := Hv.out
        have he := He.out
        rw [hdn] at hv he
        have hh : (if Fm.mayB q = true then q else 0) = v ∧ (if Fm.mayB q = true then (0 : Int) else 10) = x0' := by
          unfold Fm.ovV at hv
          unfold Fm.ovE at he
          rw [Ha.out, Hb.out] at hv he
          simp only [Bool.true_and] at hv he
          exact ⟨hv, he⟩
        clear hI hv he hdn
        obtain ⟨h1, h2⟩ := hh
        cases hm : Fm.mayB q with
        | true =>
          rw [hm] at C h1 h2
          rw [if_pos rfl] at h1 h2
          subst h1 h2
          go_wp2_with fail
          refine (C _).mono ?_
          rintro e w' ⟨rfl, rfl⟩
          go_wp2_with fail
          go_ret2
          exact ⟨rfl, 0, rfl⟩
        | false =>
          rw [hm] at C h1 h2
          rw [if_neg (by simp)] at h1 h2
          subst h1 h2
          go_wp2_with fail
          refine (C _).mono ?_
          rintro e w' ⟨rfl, rfl⟩
          go_wp2_with fail
          go_ret2
          exact ⟨rfl, 0, rfl⟩
      | succ J =>
        obtain ⟨hI, ⟨r0', r1'⟩, q0', q1'⟩ := HI
        by_cases hbig : 2305843009213693952 < q ∨ q < -2305843009213693952
        · have hm := mul_over HS1.out hI r0' r1' hbig
          have ho : (Fm.mayB a && Fm.mayB b && Fm.mayB (Fm.dn (a * b) 65536)) = false := by rw [hm]; simp
          have h1 := Hv.out
          have h2 := He.out
          rw [(ov_out ho).1] at h1
          rw [(ov_out ho).2] at h2
          clear hI hm ho
          subst h1 h2
          by_cases t1 : 2305843009213693952 < q
          · clear hbig
            go_wp2_with fail
            go_ret2
            exact ⟨rfl, 0, rfl⟩
          · have t2 : q < -2305843009213693952 := by omega
            clear hbig
            go_wp2_with fail
            go_ret2
            exact ⟨rfl, 0, rfl⟩
        · have t1 : ¬ 2305843009213693952 < q := by omega
          have t2 : ¬ q < -2305843009213693952 := by omega
          have t1' : q ≤ 2305843009213693952 := by omega
          have t2' : -2305843009213693952 ≤ q := by omega
          have t3 : ¬ ((J : Int) < 0) := by omega
          obtain ⟨S, hSS⟩ : ∃ S, x * ((N / 2 ^ J : Nat) : Int) = S := ⟨_, rfl⟩
          have hbit : N / 2 ^ J % 2 = 0 ∨ N / 2 ^ J % 2 = 1 := by omega
          rcases hbit with hb0 | hb1
          · have HC : Carry S (2 * q) (2 * r) 0 := by
              have := carry_start (n := 0) Hx.out hI hb0
              rw [hSS] at this
              exact ⟨by simp at this; omega, by omega, by omega, by omega, by omega⟩
            have eb := i64_bit N J 0 hN hb0
            have HSS := Lib.hid hSS.symm
            clear hI hSS hb0 hbig
            go_wp2_with fail
            go_loopg [10, 11, 13] 3 (fun g s10 s11 s13 wx => ∃ (q' r' : Int) (k : Nat), g = 3 - k ∧ s10 = .int .i64 q' ∧ s11 = .int .i64 r' ∧ s13 = .int .i64 (k : Int) ∧ Carry S q' r' k ∧ w = wx)
            case atStart => exact ⟨_, _, 0, rfl, rfl, rfl, rfl, HC, rfl⟩
            case round =>
              clear HC
              obtain ⟨q2, r2, k, rfl, rfl, rfl, rfl, HC, rfl⟩ := hrel
              obtain ⟨hC, ⟨c0, c1⟩, c2, c3, c4⟩ := HC
              have HC := Lib.hid hC; clear hC
              by_cases ht : 65536 ≤ r2
              · have hk : k < 3 := by omega
                have hk' : (k : Int) < 3 := by omega
                go_wp2_with fail
                go_roundg (3 - (k + 1))
                case measure => omega
                case rel => exact ⟨q2 + 1, r2 - 65536, k + 1, rfl, rfl, rfl, by go_num, ⟨by have := HC.out; omega, by omega, by omega, by omega, by omega⟩, rfl⟩
              · have ht' : r2 < 65536 := by omega
                by_cases hk : (k : Int) < 3
                · go_wp2_with fail
                  go_roundg J
                  case measure => omega
                  case rel => exact ⟨q2, r2, rfl, rfl, by go_num, ⟨by rw [HC.out]; exact HSS.out, by omega, by omega, by omega⟩, by omega, rfl⟩
                · go_wp2_with fail
                  go_roundg J
                  case measure => omega
                  case rel => exact ⟨q2, r2, rfl, rfl, by go_num, ⟨by rw [HC.out]; exact HSS.out, by omega, by omega, by omega⟩, by omega, rfl⟩
          · have HC : Carry S (2 * q + aq) (2 * r + ar) 0 := by
              have := carry_start (n := 1) Hx.out hI hb1
              rw [hSS] at this
              exact ⟨by simp at this; omega, by omega, by omega, by omega, by omega⟩
            have eb := i64_bit N J 1 hN hb1
            have HSS := Lib.hid hSS.symm
            clear hI hSS hb1 hbig
            go_wp2_with fail
            go_loopg [10, 11, 13] 3 (fun g s10 s11 s13 wx => ∃ (q' r' : Int) (k : Nat), g = 3 - k ∧ s10 = .int .i64 q' ∧ s11 = .int .i64 r' ∧ s13 = .int .i64 (k : Int) ∧ Carry S q' r' k ∧ w = wx)
            case atStart => exact ⟨_, _, 0, rfl, rfl, rfl, rfl, HC, rfl⟩
            case round =>
              clear HC
              obtain ⟨q2, r2, k, rfl, rfl, rfl, rfl, HC, rfl⟩ := hrel
              obtain ⟨hC, ⟨c0, c1⟩, c2, c3, c4⟩ := HC
              have HC := Lib.hid hC; clear hC
              by_cases ht : 65536 ≤ r2
              · have hk : k < 3 := by omega
                have hk' : (k : Int) < 3 := by omega
                go_wp2_with fail
                go_roundg (3 - (k + 1))
                case measure => omega
                case rel => exact ⟨q2 + 1, r2 - 65536, k + 1, rfl, rfl, rfl, by go_num, ⟨by have := HC.out; omega, by omega, by omega, by omega, by omega⟩, rfl⟩
              · have ht' : r2 < 65536 := by omega
                by_cases hk : (k : Int) < 3
                · go_wp2_with fail
                  go_roundg J
                  case measure => omega
                  case rel => exact ⟨q2, r2, rfl, rfl, by go_num, ⟨by rw [HC.out]; exact HSS.out, by omega, by omega, by omega⟩, by omega, rfl⟩
                · go_wp2_with fail
                  go_roundg J
                  case measure => omega
                  case rel => exact ⟨q2, r2, rfl, rfl, by go_num, ⟨by rw [HC.out]; exact HSS.out, by omega, by omega, by omega⟩, by omega, rfl⟩
end Go.Proofs.Ytabfdhecbbemjaa.Fx
