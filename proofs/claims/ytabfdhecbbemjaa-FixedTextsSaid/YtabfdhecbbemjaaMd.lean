/- fixed.mulDiv, fixed.withSign, fixed.plus[uint64], walked. -/
import Derived.Test.YtabfdhecbbemjaaProg
import Derived.Test.YtabfdhecbbemjaaDv2
import Derived.Test.YtabfdhecbbemjaaShelf
import Derived.WalkKit
import Derived.Outline
import Derived.Lib.Hide
import Derived.Deep.QuietTactic
import Derived.BigQuiet
set_option linter.unusedVariables false
namespace Go.Proofs.Ytabfdhecbbemjaa.Fx
open Go.RowKit

theorem mul_any (A B hi lo : Nat) (w : World) (hA : A < 18446744073709551616) (hB : B < 18446744073709551616) (h1 : A * B / 18446744073709551616 = hi) (h2 : A * B % 18446744073709551616 = lo) :
    Calls Try.prog 46 #[.int .u64 A, .int .u64 B] w fun e w' => e = .returned (.tuple #[.int .u64 hi, .int .u64 lo]) ∧ w = w' := by
  subst h1 h2
  exact (Try.bits_Mul64 A B hA hB w).mono fun e w' ⟨h1, h2⟩ => ⟨h1, h2.symm⟩
theorem dv_any (hi lo y q r : Nat) (w : World) (hy : y < 18446744073709551616) (hlo : lo < 18446744073709551616) (hh : hi < y) (h1 : (hi * 18446744073709551616 + lo) / y = q) (h2 : (hi * 18446744073709551616 + lo) % y = r) :
    Calls Try.prog 47 #[.int .u64 hi, .int .u64 lo, .int .u64 y] w fun e w' => e = .returned (.tuple #[.int .u64 q, .int .u64 r]) ∧ ∃ n, w' = w.drewN n := by
  subst h1 h2
  exact div_any hi lo y w (fun w => Try.bits_LeadingZeros64 (y : Int) w (by omega) (by omega)) hy hlo hh

theorem sign_yes (q : Nat) (w : World) (hq : q ≤ 4611686018427387904) :
    Calls Try.prog 45 #[.int .u64 q, .bool true] w fun e w' => e = .returned (.int .i64 (-(q : Int))) ∧ w = w' := by
  go_enter Try.func45, Try.ntmps45
  go_wp2
  go_ret
  exact ⟨rfl, rfl⟩
theorem sign_no (q : Nat) (w : World) (hq : q ≤ 4611686018427387904) :
    Calls Try.prog 45 #[.int .u64 q, .bool false] w fun e w' => e = .returned (.int .i64 (q : Int)) ∧ w = w' := by
  go_enter Try.func45, Try.ntmps45
  go_wp2
  go_ret
  exact ⟨rfl, rfl⟩

theorem uplus_yes (q q1 : Nat) (w : World) (hq : q < 18446744073709551615) (h : q + 1 = q1) :
    Calls Try.prog 48 #[.int .u64 q, .int .u64 1] w fun e w' => e = .returned (.tuple #[.int .u64 (q1 : Int), .bool true]) ∧ w = w' := by
  subst h
  have t : ¬ ((q : Int) + 1 < (q : Int)) := by omega
  go_enter Try.func48, Try.ntmps48
  go_wp2
  go_ret2
  exact ⟨ret_two (by simp) (by simp), rfl⟩
theorem uplus_no (q : Nat) (w : World) (h : q = 18446744073709551615) :
    Calls Try.prog 48 #[.int .u64 q, .int .u64 1] w fun e w' => e = .returned (.tuple #[.int .u64 0, .bool false]) ∧ w = w' := by
  subst h
  go_enter Try.func48, Try.ntmps48
  go_wp2
  go_ret2
  exact ⟨ret_two (by rw [IntKind.wrap_u64]; decide) (by rw [IntKind.wrap_u64]; decide), rfl⟩

/-- are the signs so that the quotient is not above 0? -/
def Below (a b c : Int) (nb : Bool) : Prop := (!(!decide (a < 0) == decide (b < 0)) == decide (c < 0)) = nb
set_option maxHeartbeats 800000 in
theorem md_high (a b c : Int) (A B C hi lo : Nat) (w : World) (ha0 : -9223372036854775808 ≤ a) (ha1 : a ≤ 9223372036854775807) (hb0 : -9223372036854775808 ≤ b) (hb1 : b ≤ 9223372036854775807) (hc0 : -9223372036854775808 ≤ c) (hc1 : c ≤ 9223372036854775807)
    (hA : (a.natAbs : Int) = A) (hB : (b.natAbs : Int) = B) (hC : (c.natAbs : Int) = C) (h1 : A * B / 18446744073709551616 = hi) (h2 : A * B % 18446744073709551616 = lo) (hh : C ≤ hi) :
    Calls Try.prog 36 #[.int .i64 a, .int .i64 b, .int .i64 c] w fun e w' => e = .returned (.tuple #[.int .i64 0, .bool false]) ∧ ∃ n, w' = w.drewN n := by
  have bA : A < 18446744073709551616 := by omega
  have bB : B < 18446744073709551616 := by omega
  have bC : C < 18446744073709551616 := by omega
  have blo : lo < 18446744073709551616 := by rw [← h2]; exact Nat.mod_lt _ (by decide)
  have H1 := Lib.hid h1; clear h1
  have H2 := Lib.hid h2; clear h2
  have t : (C : Int) ≤ (hi : Int) := by omega
  go_enter Try.func36, Try.ntmps36
  go_wp2_with fail
  refine (size_any a _ ha0 ha1).mono ?_
  rintro e w' ⟨rfl, rfl⟩
  go_wp2_with fail
  refine (size_any b _ hb0 hb1).mono ?_
  rintro e w' ⟨rfl, rfl⟩
  go_wp2_with fail
  refine (mul_any A B hi lo _ bA bB H1.out H2.out).mono ?_
  rintro e w' ⟨rfl, rfl⟩
  go_wp2_with fail
  refine (size_any c _ hc0 hc1).mono ?_
  rintro e w' ⟨rfl, rfl⟩
  go_wp2_with fail
  go_ret2
  exact ⟨rfl, 0, rfl⟩
set_option maxHeartbeats 1600000 in
theorem md_up (a b c : Int) (A B C hi lo q r : Nat) (w : World) (ha0 : -9223372036854775808 ≤ a) (ha1 : a ≤ 9223372036854775807) (hb0 : -9223372036854775808 ≤ b) (hb1 : b ≤ 9223372036854775807) (hc0 : -9223372036854775808 ≤ c) (hc1 : c ≤ 9223372036854775807)
    (hA : (a.natAbs : Int) = A) (hB : (b.natAbs : Int) = B) (hC : (c.natAbs : Int) = C) (h1 : A * B / 18446744073709551616 = hi) (h2 : A * B % 18446744073709551616 = lo) (hh : hi < C) (h3 : (hi * 18446744073709551616 + lo) / C = q) (h4 : (hi * 18446744073709551616 + lo) % C = r) (hn : Below a b c true) (q1 : Nat) (hq1 : q + 1 = q1) (hr : r ≠ 0) (hq : q1 ≤ 4611686018427387904) :
    Calls Try.prog 36 #[.int .i64 a, .int .i64 b, .int .i64 c] w fun e w' => e = .returned (.tuple #[.int .i64 (-(q1 : Int)), .bool true]) ∧ ∃ n, w' = w.drewN n := by
  have bA : A < 18446744073709551616 := by omega
  have bB : B < 18446744073709551616 := by omega
  have bC : C < 18446744073709551616 := by omega
  have blo : lo < 18446744073709551616 := by rw [← h2]; exact Nat.mod_lt _ (by decide)
  have H1 := Lib.hid h1; clear h1
  have H2 := Lib.hid h2; clear h2
  have H3 := Lib.hid h3; clear h3
  have H4 := Lib.hid h4; clear h4
  have t : ¬ (C : Int) ≤ (hi : Int) := by omega
  have t' : (hi : Int) < (C : Int) := by omega
  unfold Below at hn
  have tr : ((r : Int) == 0) = false := by simp; omega
  have tr' : ((r : Int) != 0) = true := by simp; omega
  go_enter Try.func36, Try.ntmps36
  go_wp2_with fail
  refine (size_any a _ ha0 ha1).mono ?_
  rintro e w' ⟨rfl, rfl⟩
  go_wp2_with fail
  refine (size_any b _ hb0 hb1).mono ?_
  rintro e w' ⟨rfl, rfl⟩
  go_wp2_with fail
  refine (mul_any A B hi lo _ bA bB H1.out H2.out).mono ?_
  rintro e w' ⟨rfl, rfl⟩
  go_wp2_with fail
  refine (size_any c _ hc0 hc1).mono ?_
  rintro e w' ⟨rfl, rfl⟩
  go_wp2_with fail
  refine (size_any c _ hc0 hc1).mono ?_
  rintro e w' ⟨rfl, rfl⟩
  go_wp2_with fail
  refine (dv_any hi lo C q r _ bC blo hh H3.out H4.out).mono ?_
  rintro e w' ⟨rfl, n, rfl⟩
  go_wp2_with fail
  refine (uplus_yes q q1 _ (by omega) hq1).mono ?_
  rintro e w' ⟨rfl, rfl⟩
  have tq : ¬ (4611686018427387904 : Int) < (q1 : Int) := by omega
  have tq' : (q1 : Int) ≤ 4611686018427387904 := by omega
  go_wp2_with fail
  refine (sign_yes q1 _ (by omega)).mono ?_
  rintro e w' ⟨rfl, rfl⟩
  go_wp2_with fail
  go_ret2
  exact ⟨rfl, n, rfl⟩
set_option maxHeartbeats 1600000 in
theorem md_upbig (a b c : Int) (A B C hi lo q r : Nat) (w : World) (ha0 : -9223372036854775808 ≤ a) (ha1 : a ≤ 9223372036854775807) (hb0 : -9223372036854775808 ≤ b) (hb1 : b ≤ 9223372036854775807) (hc0 : -9223372036854775808 ≤ c) (hc1 : c ≤ 9223372036854775807)
    (hA : (a.natAbs : Int) = A) (hB : (b.natAbs : Int) = B) (hC : (c.natAbs : Int) = C) (h1 : A * B / 18446744073709551616 = hi) (h2 : A * B % 18446744073709551616 = lo) (hh : hi < C) (h3 : (hi * 18446744073709551616 + lo) / C = q) (h4 : (hi * 18446744073709551616 + lo) % C = r) (hn : Below a b c true) (q1 : Nat) (hq1 : q + 1 = q1) (hr : r ≠ 0) (hq : 4611686018427387904 < q1) (hq2 : q < 18446744073709551615) :
    Calls Try.prog 36 #[.int .i64 a, .int .i64 b, .int .i64 c] w fun e w' => e = .returned (.tuple #[.int .i64 0, .bool false]) ∧ ∃ n, w' = w.drewN n := by
  have bA : A < 18446744073709551616 := by omega
  have bB : B < 18446744073709551616 := by omega
  have bC : C < 18446744073709551616 := by omega
  have blo : lo < 18446744073709551616 := by rw [← h2]; exact Nat.mod_lt _ (by decide)
  have H1 := Lib.hid h1; clear h1
  have H2 := Lib.hid h2; clear h2
  have H3 := Lib.hid h3; clear h3
  have H4 := Lib.hid h4; clear h4
  have t : ¬ (C : Int) ≤ (hi : Int) := by omega
  have t' : (hi : Int) < (C : Int) := by omega
  unfold Below at hn
  have tr : ((r : Int) == 0) = false := by simp; omega
  have tr' : ((r : Int) != 0) = true := by simp; omega
  go_enter Try.func36, Try.ntmps36
  go_wp2_with fail
  refine (size_any a _ ha0 ha1).mono ?_
  rintro e w' ⟨rfl, rfl⟩
  go_wp2_with fail
  refine (size_any b _ hb0 hb1).mono ?_
  rintro e w' ⟨rfl, rfl⟩
  go_wp2_with fail
  refine (mul_any A B hi lo _ bA bB H1.out H2.out).mono ?_
  rintro e w' ⟨rfl, rfl⟩
  go_wp2_with fail
  refine (size_any c _ hc0 hc1).mono ?_
  rintro e w' ⟨rfl, rfl⟩
  go_wp2_with fail
  refine (size_any c _ hc0 hc1).mono ?_
  rintro e w' ⟨rfl, rfl⟩
  go_wp2_with fail
  refine (dv_any hi lo C q r _ bC blo hh H3.out H4.out).mono ?_
  rintro e w' ⟨rfl, n, rfl⟩
  go_wp2_with fail
  refine (uplus_yes q q1 _ (by omega) hq1).mono ?_
  rintro e w' ⟨rfl, rfl⟩
  have tq : (4611686018427387904 : Int) < (q1 : Int) := by omega
  go_wp2_with fail
  go_ret2
  exact ⟨rfl, n, rfl⟩
set_option maxHeartbeats 1600000 in
theorem md_upover (a b c : Int) (A B C hi lo q r : Nat) (w : World) (ha0 : -9223372036854775808 ≤ a) (ha1 : a ≤ 9223372036854775807) (hb0 : -9223372036854775808 ≤ b) (hb1 : b ≤ 9223372036854775807) (hc0 : -9223372036854775808 ≤ c) (hc1 : c ≤ 9223372036854775807)
    (hA : (a.natAbs : Int) = A) (hB : (b.natAbs : Int) = B) (hC : (c.natAbs : Int) = C) (h1 : A * B / 18446744073709551616 = hi) (h2 : A * B % 18446744073709551616 = lo) (hh : hi < C) (h3 : (hi * 18446744073709551616 + lo) / C = q) (h4 : (hi * 18446744073709551616 + lo) % C = r) (hn : Below a b c true) (hr : r ≠ 0) (hq : q = 18446744073709551615) :
    Calls Try.prog 36 #[.int .i64 a, .int .i64 b, .int .i64 c] w fun e w' => e = .returned (.tuple #[.int .i64 0, .bool false]) ∧ ∃ n, w' = w.drewN n := by
  have bA : A < 18446744073709551616 := by omega
  have bB : B < 18446744073709551616 := by omega
  have bC : C < 18446744073709551616 := by omega
  have blo : lo < 18446744073709551616 := by rw [← h2]; exact Nat.mod_lt _ (by decide)
  have H1 := Lib.hid h1; clear h1
  have H2 := Lib.hid h2; clear h2
  have H3 := Lib.hid h3; clear h3
  have H4 := Lib.hid h4; clear h4
  have t : ¬ (C : Int) ≤ (hi : Int) := by omega
  have t' : (hi : Int) < (C : Int) := by omega
  unfold Below at hn
  have tr : ((r : Int) == 0) = false := by simp; omega
  have tr' : ((r : Int) != 0) = true := by simp; omega
  have Hq := Lib.hid hq; clear hq
  go_enter Try.func36, Try.ntmps36
  go_wp2_with fail
  refine (size_any a _ ha0 ha1).mono ?_
  rintro e w' ⟨rfl, rfl⟩
  go_wp2_with fail
  refine (size_any b _ hb0 hb1).mono ?_
  rintro e w' ⟨rfl, rfl⟩
  go_wp2_with fail
  refine (mul_any A B hi lo _ bA bB H1.out H2.out).mono ?_
  rintro e w' ⟨rfl, rfl⟩
  go_wp2_with fail
  refine (size_any c _ hc0 hc1).mono ?_
  rintro e w' ⟨rfl, rfl⟩
  go_wp2_with fail
  refine (size_any c _ hc0 hc1).mono ?_
  rintro e w' ⟨rfl, rfl⟩
  go_wp2_with fail
  refine (dv_any hi lo C q r _ bC blo hh H3.out H4.out).mono ?_
  rintro e w' ⟨rfl, n, rfl⟩
  go_wp2_with fail
  refine (uplus_no q _ Hq.out).mono ?_
  rintro e w' ⟨rfl, rfl⟩
  go_wp2_with fail
  go_ret2
  exact ⟨rfl, n, rfl⟩
set_option maxHeartbeats 1600000 in
theorem md_even (a b c : Int) (A B C hi lo q r : Nat) (w : World) (ha0 : -9223372036854775808 ≤ a) (ha1 : a ≤ 9223372036854775807) (hb0 : -9223372036854775808 ≤ b) (hb1 : b ≤ 9223372036854775807) (hc0 : -9223372036854775808 ≤ c) (hc1 : c ≤ 9223372036854775807)
    (hA : (a.natAbs : Int) = A) (hB : (b.natAbs : Int) = B) (hC : (c.natAbs : Int) = C) (h1 : A * B / 18446744073709551616 = hi) (h2 : A * B % 18446744073709551616 = lo) (hh : hi < C) (h3 : (hi * 18446744073709551616 + lo) / C = q) (h4 : (hi * 18446744073709551616 + lo) % C = r) (hn : Below a b c true) (hr : r = 0) (hq : q ≤ 4611686018427387904) :
    Calls Try.prog 36 #[.int .i64 a, .int .i64 b, .int .i64 c] w fun e w' => e = .returned (.tuple #[.int .i64 (-(q : Int)), .bool true]) ∧ ∃ n, w' = w.drewN n := by
  have bA : A < 18446744073709551616 := by omega
  have bB : B < 18446744073709551616 := by omega
  have bC : C < 18446744073709551616 := by omega
  have blo : lo < 18446744073709551616 := by rw [← h2]; exact Nat.mod_lt _ (by decide)
  have H1 := Lib.hid h1; clear h1
  have H2 := Lib.hid h2; clear h2
  have H3 := Lib.hid h3; clear h3
  have H4 := Lib.hid h4; clear h4
  have t : ¬ (C : Int) ≤ (hi : Int) := by omega
  have t' : (hi : Int) < (C : Int) := by omega
  unfold Below at hn
  have tr : ((r : Int) == 0) = true := by simp; omega
  have tr' : ((r : Int) != 0) = false := by simp; omega
  go_enter Try.func36, Try.ntmps36
  go_wp2_with fail
  refine (size_any a _ ha0 ha1).mono ?_
  rintro e w' ⟨rfl, rfl⟩
  go_wp2_with fail
  refine (size_any b _ hb0 hb1).mono ?_
  rintro e w' ⟨rfl, rfl⟩
  go_wp2_with fail
  refine (mul_any A B hi lo _ bA bB H1.out H2.out).mono ?_
  rintro e w' ⟨rfl, rfl⟩
  go_wp2_with fail
  refine (size_any c _ hc0 hc1).mono ?_
  rintro e w' ⟨rfl, rfl⟩
  go_wp2_with fail
  refine (size_any c _ hc0 hc1).mono ?_
  rintro e w' ⟨rfl, rfl⟩
  go_wp2_with fail
  refine (dv_any hi lo C q r _ bC blo hh H3.out H4.out).mono ?_
  rintro e w' ⟨rfl, n, rfl⟩
  have tq : ¬ (4611686018427387904 : Int) < (q : Int) := by omega
  have tq' : (q : Int) ≤ 4611686018427387904 := by omega
  go_wp2_with fail
  refine (sign_yes q _ (by omega)).mono ?_
  rintro e w' ⟨rfl, rfl⟩
  go_wp2_with fail
  go_ret2
  exact ⟨rfl, n, rfl⟩
set_option maxHeartbeats 1600000 in
theorem md_evenbig (a b c : Int) (A B C hi lo q r : Nat) (w : World) (ha0 : -9223372036854775808 ≤ a) (ha1 : a ≤ 9223372036854775807) (hb0 : -9223372036854775808 ≤ b) (hb1 : b ≤ 9223372036854775807) (hc0 : -9223372036854775808 ≤ c) (hc1 : c ≤ 9223372036854775807)
    (hA : (a.natAbs : Int) = A) (hB : (b.natAbs : Int) = B) (hC : (c.natAbs : Int) = C) (h1 : A * B / 18446744073709551616 = hi) (h2 : A * B % 18446744073709551616 = lo) (hh : hi < C) (h3 : (hi * 18446744073709551616 + lo) / C = q) (h4 : (hi * 18446744073709551616 + lo) % C = r) (hn : Below a b c true) (hr : r = 0) (hq : 4611686018427387904 < q) :
    Calls Try.prog 36 #[.int .i64 a, .int .i64 b, .int .i64 c] w fun e w' => e = .returned (.tuple #[.int .i64 0, .bool false]) ∧ ∃ n, w' = w.drewN n := by
  have bA : A < 18446744073709551616 := by omega
  have bB : B < 18446744073709551616 := by omega
  have bC : C < 18446744073709551616 := by omega
  have blo : lo < 18446744073709551616 := by rw [← h2]; exact Nat.mod_lt _ (by decide)
  have H1 := Lib.hid h1; clear h1
  have H2 := Lib.hid h2; clear h2
  have H3 := Lib.hid h3; clear h3
  have H4 := Lib.hid h4; clear h4
  have t : ¬ (C : Int) ≤ (hi : Int) := by omega
  have t' : (hi : Int) < (C : Int) := by omega
  unfold Below at hn
  have tr : ((r : Int) == 0) = true := by simp; omega
  have tr' : ((r : Int) != 0) = false := by simp; omega
  go_enter Try.func36, Try.ntmps36
  go_wp2_with fail
  refine (size_any a _ ha0 ha1).mono ?_
  rintro e w' ⟨rfl, rfl⟩
  go_wp2_with fail
  refine (size_any b _ hb0 hb1).mono ?_
  rintro e w' ⟨rfl, rfl⟩
  go_wp2_with fail
  refine (mul_any A B hi lo _ bA bB H1.out H2.out).mono ?_
  rintro e w' ⟨rfl, rfl⟩
  go_wp2_with fail
  refine (size_any c _ hc0 hc1).mono ?_
  rintro e w' ⟨rfl, rfl⟩
  go_wp2_with fail
  refine (size_any c _ hc0 hc1).mono ?_
  rintro e w' ⟨rfl, rfl⟩
  go_wp2_with fail
  refine (dv_any hi lo C q r _ bC blo hh H3.out H4.out).mono ?_
  rintro e w' ⟨rfl, n, rfl⟩
  have tq : (4611686018427387904 : Int) < (q : Int) := by omega
  go_wp2_with fail
  go_ret2
  exact ⟨rfl, n, rfl⟩
set_option maxHeartbeats 1600000 in
theorem md_pos (a b c : Int) (A B C hi lo q r : Nat) (w : World) (ha0 : -9223372036854775808 ≤ a) (ha1 : a ≤ 9223372036854775807) (hb0 : -9223372036854775808 ≤ b) (hb1 : b ≤ 9223372036854775807) (hc0 : -9223372036854775808 ≤ c) (hc1 : c ≤ 9223372036854775807)
    (hA : (a.natAbs : Int) = A) (hB : (b.natAbs : Int) = B) (hC : (c.natAbs : Int) = C) (h1 : A * B / 18446744073709551616 = hi) (h2 : A * B % 18446744073709551616 = lo) (hh : hi < C) (h3 : (hi * 18446744073709551616 + lo) / C = q) (h4 : (hi * 18446744073709551616 + lo) % C = r) (hn : Below a b c false) (hq : q ≤ 4611686018427387904) :
    Calls Try.prog 36 #[.int .i64 a, .int .i64 b, .int .i64 c] w fun e w' => e = .returned (.tuple #[.int .i64 (q : Int), .bool true]) ∧ ∃ n, w' = w.drewN n := by
  have bA : A < 18446744073709551616 := by omega
  have bB : B < 18446744073709551616 := by omega
  have bC : C < 18446744073709551616 := by omega
  have blo : lo < 18446744073709551616 := by rw [← h2]; exact Nat.mod_lt _ (by decide)
  have H1 := Lib.hid h1; clear h1
  have H2 := Lib.hid h2; clear h2
  have H3 := Lib.hid h3; clear h3
  have H4 := Lib.hid h4; clear h4
  have t : ¬ (C : Int) ≤ (hi : Int) := by omega
  have t' : (hi : Int) < (C : Int) := by omega
  unfold Below at hn
  go_enter Try.func36, Try.ntmps36
  go_wp2_with fail
  refine (size_any a _ ha0 ha1).mono ?_
  rintro e w' ⟨rfl, rfl⟩
  go_wp2_with fail
  refine (size_any b _ hb0 hb1).mono ?_
  rintro e w' ⟨rfl, rfl⟩
  go_wp2_with fail
  refine (mul_any A B hi lo _ bA bB H1.out H2.out).mono ?_
  rintro e w' ⟨rfl, rfl⟩
  go_wp2_with fail
  refine (size_any c _ hc0 hc1).mono ?_
  rintro e w' ⟨rfl, rfl⟩
  go_wp2_with fail
  refine (size_any c _ hc0 hc1).mono ?_
  rintro e w' ⟨rfl, rfl⟩
  go_wp2_with fail
  refine (dv_any hi lo C q r _ bC blo hh H3.out H4.out).mono ?_
  rintro e w' ⟨rfl, n, rfl⟩
  have tq : ¬ (4611686018427387904 : Int) < (q : Int) := by omega
  have tq' : (q : Int) ≤ 4611686018427387904 := by omega
  go_wp2_with fail
  refine (sign_no q _ (by omega)).mono ?_
  rintro e w' ⟨rfl, rfl⟩
  go_wp2_with fail
  go_ret2
  exact ⟨rfl, n, rfl⟩
set_option maxHeartbeats 1600000 in
theorem md_posbig (a b c : Int) (A B C hi lo q r : Nat) (w : World) (ha0 : -9223372036854775808 ≤ a) (ha1 : a ≤ 9223372036854775807) (hb0 : -9223372036854775808 ≤ b) (hb1 : b ≤ 9223372036854775807) (hc0 : -9223372036854775808 ≤ c) (hc1 : c ≤ 9223372036854775807)
    (hA : (a.natAbs : Int) = A) (hB : (b.natAbs : Int) = B) (hC : (c.natAbs : Int) = C) (h1 : A * B / 18446744073709551616 = hi) (h2 : A * B % 18446744073709551616 = lo) (hh : hi < C) (h3 : (hi * 18446744073709551616 + lo) / C = q) (h4 : (hi * 18446744073709551616 + lo) % C = r) (hn : Below a b c false) (hq : 4611686018427387904 < q) :
    Calls Try.prog 36 #[.int .i64 a, .int .i64 b, .int .i64 c] w fun e w' => e = .returned (.tuple #[.int .i64 0, .bool false]) ∧ ∃ n, w' = w.drewN n := by
  have bA : A < 18446744073709551616 := by omega
  have bB : B < 18446744073709551616 := by omega
  have bC : C < 18446744073709551616 := by omega
  have blo : lo < 18446744073709551616 := by rw [← h2]; exact Nat.mod_lt _ (by decide)
  have H1 := Lib.hid h1; clear h1
  have H2 := Lib.hid h2; clear h2
  have H3 := Lib.hid h3; clear h3
  have H4 := Lib.hid h4; clear h4
  have t : ¬ (C : Int) ≤ (hi : Int) := by omega
  have t' : (hi : Int) < (C : Int) := by omega
  unfold Below at hn
  go_enter Try.func36, Try.ntmps36
  go_wp2_with fail
  refine (size_any a _ ha0 ha1).mono ?_
  rintro e w' ⟨rfl, rfl⟩
  go_wp2_with fail
  refine (size_any b _ hb0 hb1).mono ?_
  rintro e w' ⟨rfl, rfl⟩
  go_wp2_with fail
  refine (mul_any A B hi lo _ bA bB H1.out H2.out).mono ?_
  rintro e w' ⟨rfl, rfl⟩
  go_wp2_with fail
  refine (size_any c _ hc0 hc1).mono ?_
  rintro e w' ⟨rfl, rfl⟩
  go_wp2_with fail
  refine (size_any c _ hc0 hc1).mono ?_
  rintro e w' ⟨rfl, rfl⟩
  go_wp2_with fail
  refine (dv_any hi lo C q r _ bC blo hh H3.out H4.out).mono ?_
  rintro e w' ⟨rfl, n, rfl⟩
  have tq : (4611686018427387904 : Int) < (q : Int) := by omega
  go_wp2_with fail
  go_ret2
  exact ⟨rfl, n, rfl⟩
end Go.Proofs.Ytabfdhecbbemjaa.Fx
