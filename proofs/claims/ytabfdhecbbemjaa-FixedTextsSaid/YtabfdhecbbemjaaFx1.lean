/- Contracts of package fixed's small functions. -/
import Derived.Test.YtabfdhecbbemjaaProg
import Derived.WalkKit
set_option linter.unusedVariables false
namespace Go.Proofs.Ytabfdhecbbemjaa.Fx
open Go.RowKit

theorem ret_int {k : IntKind} {a b : Int} (h : a = b) : Ending.returned (.int k a) = .returned (.int k b) := by rw [h]
theorem ret_two {k : IntKind} {a b : Int} {x y : Bool} (h : a = b) (h2 : x = y) : Ending.returned (.tuple #[.int k a, .bool x]) = .returned (.tuple #[.int k b, .bool y]) := by rw [h, h2]
theorem ret_bool {x y : Bool} (h2 : x = y) : Ending.returned (.bool x) = .returned (.bool y) := by rw [h2]

theorem within_yes (n m : Int) (w : World) (hm1 : m ≤ 4611686018427387904) (h1 : -m ≤ n) (h2 : n ≤ m) :
    Calls Try.prog 33 #[.int .i64 n, .int .i64 m] w fun e w' => e = .returned (.bool true) ∧ w = w' := by
  go_enter Try.func33, Try.ntmps33
  go_wp2
  go_ret
  exact ⟨ret_bool (by simp), rfl⟩
theorem within_no (n m : Int) (w : World) (hm0 : 0 ≤ m) (hm1 : m ≤ 4611686018427387904) (h : n < -m ∨ m < n) :
    Calls Try.prog 33 #[.int .i64 n, .int .i64 m] w fun e w' => e = .returned (.bool false) ∧ w = w' := by
  by_cases h1 : -m ≤ n
  · have h2 : m < n := by omega
    clear h
    go_enter Try.func33, Try.ntmps33
    go_wp2
    go_ret
    exact ⟨ret_bool (by simp; omega), rfl⟩
  · clear h
    go_enter Try.func33, Try.ntmps33
    go_wp2
    go_ret
    exact ⟨rfl, rfl⟩

theorem size_neg (a : Int) (h0 : -9223372036854775808 ≤ a) (h1 : a < 0) : IntKind.u64.wrap (-IntKind.u64.wrap a) = (a.natAbs : Int) := by
  simp only [IntKind.wrap, IntKind.bits, IntKind.signed]
  simp
  omega
theorem size_any (a : Int) (w : World) (hn0 : -9223372036854775808 ≤ a) (hn1 : a ≤ 9223372036854775807) :
    Calls Try.prog 39 #[.int .i64 a] w fun e w' => e = .returned (.int .u64 (a.natAbs : Int)) ∧ w = w' := by
  by_cases h1 : a < 0
  · go_enter Try.func39, Try.ntmps39
    go_wp2
    go_ret
    exact ⟨ret_int (size_neg a hn0 h1), rfl⟩
  · go_enter Try.func39, Try.ntmps39
    go_wp2
    go_ret
    exact ⟨ret_int (by omega), rfl⟩

theorem plus_bool (a b : Int) : (decide (b < 0) == decide (a + b < a)) = true := by
  by_cases h : b < 0 <;> simp [h] <;> omega
theorem plus_yes (a b : Int) (w : World) (h0 : -9223372036854775808 ≤ a + b) (h1 : a + b ≤ 9223372036854775807) :
    Calls Try.prog 30 #[.int .i64 a, .int .i64 b] w fun e w' => e = .returned (.tuple #[.int .i64 (a + b), .bool true]) ∧ w = w' := by
  go_enter Try.func30, Try.ntmps30
  go_wp2
  go_ret2
  exact ⟨ret_two rfl (plus_bool a b), rfl⟩
theorem plus_nobool (a b : Int) (ha : a ≤ 4611686018427387904) (hb : b ≤ 4611686018427387904) (h1 : 9223372036854775807 < a + b) : (decide (b < 0) == decide (wrap64 (a + b) < a)) = false := by
  unfold wrap64
  have h2 : ¬ b < 0 := by omega
  have h3 : (a + b + 9223372036854775808) % 18446744073709551616 - 9223372036854775808 < a := by omega
  simp [h2, h3]
theorem plus_no (a b : Int) (w : World) (ha : a ≤ 4611686018427387904) (hb : b ≤ 4611686018427387904) (h1 : 9223372036854775807 < a + b) :
    Calls Try.prog 30 #[.int .i64 a, .int .i64 b] w fun e w' => e = .returned (.tuple #[.int .i64 (wrap64 (a + b)), .bool false]) ∧ w = w' := by
  go_enter Try.func30, Try.ntmps30
  go_wp2
  go_ret2
  exact ⟨ret_two rfl (plus_nobool a b ha hb h1), rfl⟩

theorem minus_bool (a b : Int) : (decide (b < 0) == decide (a < a - b)) = true := by
  by_cases h : b < 0 <;> simp [h] <;> omega
theorem minus_yes (a b : Int) (w : World) (h0 : -9223372036854775808 ≤ a - b) (h1 : a - b ≤ 9223372036854775807) :
    Calls Try.prog 32 #[.int .i64 a, .int .i64 b] w fun e w' => e = .returned (.tuple #[.int .i64 (a - b), .bool true]) ∧ w = w' := by
  go_enter Try.func32, Try.ntmps32
  go_wp2
  go_ret2
  exact ⟨ret_two rfl (minus_bool a b), rfl⟩
theorem minus_nobool (a b : Int) (ha : a ≤ 4611686018427387904) (hb : -4611686018427387904 ≤ b) (h1 : 9223372036854775807 < a - b) : (decide (b < 0) == decide (a < wrap64 (a - b))) = false := by
  unfold wrap64
  have h2 : b < 0 := by omega
  have h3 : ¬ a < (a - b + 9223372036854775808) % 18446744073709551616 - 9223372036854775808 := by omega
  simp [h2]; omega
theorem minus_no (a b : Int) (w : World) (ha : a ≤ 4611686018427387904) (hb : -4611686018427387904 ≤ b) (h1 : 9223372036854775807 < a - b) :
    Calls Try.prog 32 #[.int .i64 a, .int .i64 b] w fun e w' => e = .returned (.tuple #[.int .i64 (wrap64 (a - b)), .bool false]) ∧ w = w' := by
  go_enter Try.func32, Try.ntmps32
  go_wp2
  go_ret2
  exact ⟨ret_two rfl (minus_nobool a b ha hb h1), rfl⟩

theorem checked_out (F : Fn) (a b m : Int) (w : World) (hm0 : 0 ≤ m) (hm1 : m ≤ 4611686018427387904) (h : (a < -m ∨ m < a) ∨ (b < -m ∨ m < b)) :
    Calls Try.prog 29 #[.int .i64 a, .int .i64 b, .int .i64 m, .func F #[] #[]] w fun e w' => e = .returned (.tuple #[.int .i64 0, .int .i64 10]) ∧ w = w' := by
  by_cases ha : a < -m ∨ m < a
  · go_enter Try.func29, Try.ntmps29
    go_wp2_with fail
    refine (within_no a m _ hm0 hm1 ha).mono ?_
    rintro e w' ⟨rfl, rfl⟩
    go_wp2_with fail
    go_ret2
    exact ⟨rfl, rfl⟩
  · have hb : b < -m ∨ m < b := by omega
    have ha1 : -m ≤ a := by omega
    have ha2 : a ≤ m := by omega
    clear h ha
    have Hb := hb
    go_enter Try.func29, Try.ntmps29
    go_wp2_with fail
    refine (within_yes a m _ hm1 ha1 ha2).mono ?_
    rintro e w' ⟨rfl, rfl⟩
    go_wp2_with fail
    refine (within_no b m _ hm0 hm1 hb).mono ?_
    rintro e w' ⟨rfl, rfl⟩
    go_wp2_with fail
    go_ret2
    exact ⟨rfl, rfl⟩
end Go.Proofs.Ytabfdhecbbemjaa.Fx
