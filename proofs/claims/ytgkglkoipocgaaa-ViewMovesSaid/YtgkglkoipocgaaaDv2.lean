/- math/bits.Div64 at every three words of which the first is below the last; math/bits.LeadingZeros64, Mul64. -/
import Derived.Test.YtgkglkoipocgaaaProg
import Derived.Test.YtgkglkoipocgaaaMath
import Derived.Test.YtgkglkoipocgaaaDiv
import Derived.Test.YtgkglkoipocgaaaW0
import Derived.Shelf.Small.Bits
import Derived.Shelf.Bits.Mul64
import Derived.Lib.BitFns
import Derived.WalkKit
import Derived.Outline
import Derived.Lib.Hide
set_option linter.unusedVariables false
namespace Go.Proofs.Ytgkglkoipocgaaa.Fx
open Go.RowKit
theorem bitLen_pow : ∀ (f x : Nat), 0 < x → x < 2 ^ f → 2 ^ (Lib.bitLenAux f x) ≤ 2 * x ∧ x < 2 ^ (Lib.bitLenAux f x)
  | 0, x, h0, h => by simp at h; omega
  | f + 1, x, h0, h => by
    have hx : x ≠ 0 := by omega
    simp only [Lib.bitLenAux, if_neg hx]
    by_cases h1 : x / 2 = 0
    · have : x = 1 := by omega
      subst this
      cases f <;> simp [Lib.bitLenAux]
    · have hr := bitLen_pow f (x / 2) (by omega) (by rw [Nat.pow_succ] at h; omega)
      rw [Nat.add_comm, Nat.pow_succ]
      omega
theorem bitLen_mul (y : Nat) (h0 : 0 < y) (h : y < 18446744073709551616) : 9223372036854775808 ≤ y * 2 ^ (64 - Lib.bitLen y) ∧ y * 2 ^ (64 - Lib.bitLen y) < 18446744073709551616 := by
  have hb : Lib.bitLen y ≤ 64 := Lib.bitLen_le y 64 (by omega) (by omega)
  obtain ⟨a, b⟩ := bitLen_pow 64 y h0 (by omega)
  have e : (2 : Nat) ^ Lib.bitLen y * 2 ^ (64 - Lib.bitLen y) = 18446744073709551616 := by rw [← Nat.pow_add, show Lib.bitLen y + (64 - Lib.bitLen y) = 64 from by omega]
  have hp : 0 < 2 ^ (64 - Lib.bitLen y) := Nat.two_pow_pos _
  have a' := Nat.mul_le_mul_right (2 ^ (64 - Lib.bitLen y)) a
  have b' := Nat.mul_lt_mul_of_pos_right b hp
  rw [show Lib.bitLenAux 64 y = Lib.bitLen y from rfl, e] at a' b'
  rw [Nat.mul_assoc] at a'
  omega

theorem wrapm (a : Nat) : IntKind.u64.wrap (a : Int) = ((a % 18446744073709551616 : Nat) : Int) := Mul64.wrapM a
theorem mulpow (a s : Nat) : (a : Int) * 2 ^ s = ((a * 2 ^ s : Nat) : Int) := by simp
theorem divpow (a s : Nat) : (a : Int) / 2 ^ s = ((a / 2 ^ s : Nat) : Int) := by simp
theorem div_any (hi lo y : Nat) (w : World) (HL : ∀ w, Calls Try.prog 82 #[.int .u64 (y : Int)] w fun e w' => e = .returned (.int .i64 ((64 : Int) - (Lib.bitLen y : Int))) ∧ w' = w) (hy : y < 18446744073709551616) (hlo : lo < 18446744073709551616) (hh : hi < y) :
    Calls Try.prog 78 #[.int .u64 hi, .int .u64 lo, .int .u64 y] w fun e w' => e = .returned (.tuple #[.int .u64 (((hi * 18446744073709551616 + lo) / y : Nat) : Int), .int .u64 (((hi * 18446744073709551616 + lo) % y : Nat) : Int)]) ∧ ∃ n, w' = w.drewN n := by
  by_cases h0 : hi = 0
  · subst h0
    rw [Nat.zero_mul, Nat.zero_add]
    exact div_small lo y w hy hlo hh
  · have hy0 : 0 < y := by omega
    obtain ⟨a, b⟩ := bitLen_mul y hy0 hy
    have hb : Lib.bitLen y ≤ 64 := Lib.bitLen_le y 64 (by omega) (by omega)
    have hb1 : 64 - Lib.bitLen y ≤ 63 := by
      have : Lib.bitLen y ≠ 0 := by
        intro h
        rw [h] at b
        omega
      omega
    have H : LzIs y (64 - Lib.bitLen y) := fun w => (HL w).mono fun e w' ⟨h1, h2⟩ => ⟨by rw [h1]; exact ret_int (by omega), h2.symm⟩
    generalize 64 - Lib.bitLen y = s at *
    have D := Fm.div128 (hi := hi) (lo := lo) (s := s) (by omega) hlo hh a b
    obtain ⟨hU, hQ, hR⟩ := D
    have c1 : hi * 2 ^ s < 18446744073709551616 := Nat.lt_of_le_of_lt (Nat.mul_le_mul_right _ (Nat.le_of_lt hh)) b
    have c2 : lo / 2 ^ (64 - s) < 2 ^ s := by
      refine (Nat.div_lt_iff_lt_mul (Nat.two_pow_pos _)).2 ?_
      rw [← Nat.pow_add, show s + (64 - s) = 64 from by omega]
      exact hlo
    have c3 : lo / 2 ^ (64 - s) < 18446744073709551616 := Nat.lt_of_le_of_lt (Nat.div_le_self _ _) hlo
    refine div_walk hi lo y s (y * 2 ^ s) (hi * 2 ^ s + lo / 2 ^ (64 - s)) (lo * 2 ^ s % 18446744073709551616) w H hb1 hy hlo hh (by omega) ?_ a b ?_ hU ?_ (Nat.mod_lt _ (by decide)) ⟨hQ, hR⟩
    · rw [mulpow]; exact Mul64.wrapN _ b
    · rw [mulpow, divpow, Mul64.wrapN _ c1, bits_or_u64_nat _ _ c1 c3, nat_join s _ _ (Nat.mul_mod_left _ _) c2]
    · rw [mulpow]; exact wrapm _
end Go.Proofs.Ytgkglkoipocgaaa.Fx
