/- Package wide: numbers of 64 bits, products, comparisons. -/
import Derived.Test.YtgkglkoipocgaaaProg
import Derived.Test.YtgkglkoipocgaaaW2
import Derived.Test.YtgkglkoipocgaaaWe
import Derived.BigQuiet
set_option linter.unusedVariables false
set_option linter.unusedSimpArgs false
namespace Go.Proofs.Ytgkglkoipocgaaa.Wm
theorem of_at {a : Int} (h0 : -9223372036854775808 ≤ a) (h1 : a ≤ 9223372036854775807) : At a (a / 9223372036854775808) (uw a) := by
  have := uw_eq a
  have := uw_lt a
  unfold At
  omega
theorem mul_na (a b : Int) (ha0 : -9223372036854775808 ≤ a) (ha1 : a ≤ 9223372036854775807) (hb0 : -9223372036854775808 ≤ b) (hb1 : b ≤ 9223372036854775807) :
    Na (a.natAbs * b.natAbs) (a.natAbs * b.natAbs / 18446744073709551616) (a.natAbs * b.natAbs % 18446744073709551616) ∧ a.natAbs * b.natAbs ≤ 85070591730234615865843651857942052864 := by
  have h : a.natAbs * b.natAbs ≤ 9223372036854775808 * 9223372036854775808 := Nat.mul_le_mul (by omega) (by omega)
  generalize a.natAbs * b.natAbs = n at *
  unfold Na
  omega
theorem mul_sign (a b : Int) : (if (decide (a < 0) != decide (b < 0)) = true then -((a.natAbs * b.natAbs : Nat) : Int) else ((a.natAbs * b.natAbs : Nat) : Int)) = a * b := by
  have ea : a < 0 → a = -(a.natAbs : Int) := by omega
  have ea' : ¬ a < 0 → a = (a.natAbs : Int) := by omega
  have eb : b < 0 → b = -(b.natAbs : Int) := by omega
  have eb' : ¬ b < 0 → b = (b.natAbs : Int) := by omega
  rw [Int.natCast_mul]
  by_cases h1 : a < 0 <;> by_cases h2 : b < 0 <;> simp only [h1, h2]
  · rw [if_neg (by decide)]; conv => rhs; rw [ea h1, eb h2, Int.neg_mul_neg]
  · rw [if_pos (by decide)]; conv => rhs; rw [ea h1, eb' h2, Int.neg_mul]
  · rw [if_pos (by decide)]; conv => rhs; rw [ea' h1, eb h2, Int.mul_neg]
  · rw [if_neg (by decide)]; conv => rhs; rw [ea' h1, eb' h2]
theorem mul_in (a b : Int) (ha0 : -9223372036854775808 ≤ a) (ha1 : a ≤ 9223372036854775807) (hb0 : -9223372036854775808 ≤ b) (hb1 : b ≤ 9223372036854775807) : In (a * b) := by
  have h := (mul_na a b ha0 ha1 hb0 hb1).2
  rw [← mul_sign a b]
  generalize a.natAbs * b.natAbs = n at *
  unfold In
  split <;> omega
/-- comparison -/
def cmpI (x y : Int) : Int := if x = y then 0 else if x < y then -1 else 1
theorem at_eq {x y a b : Int} {k l : Nat} (h : At x a k) (g : At y b l) : x = y ↔ a = b ∧ k = l := by unfold At at *; omega
theorem at_lt {x y a b : Int} {k l : Nat} (h : At x a k) (g : At y b l) : x < y ↔ a < b ∨ a = b ∧ k < l := by unfold At at *; omega
end Go.Proofs.Ytgkglkoipocgaaa.Wm
namespace Go.Proofs.Ytgkglkoipocgaaa.Fx
open Go.RowKit Wm
theorem of_w (a H : Int) (p : Nat) (w : World) (e1 : a / 9223372036854775808 = H) (e2 : IntKind.u64.wrap a = (p : Int)) :
    Calls Try.prog 73 #[.int .i64 a] w fun e w' => e = .returned (.agg #[.int .i64 H, .int .u64 p]) ∧ Below w.heap.size w w' := by
  go_enter Try.func73, Try.ntmps73
  go_wp2
  refine bodyPost_ret (v := .agg #[.int .i64 H, .int .u64 p]) (by simp [results, Try.results73, go_sem, *]) rfl ⟨rfl, ?_⟩
  repeat' (first | (with_reducible exact Below.refl _ _) | (with_reducible assumption) | (with_reducible refine Below.drew ?_) | (with_reducible refine Below.setCell ?_ ?_ _) | (with_reducible refine bnext ?_ (by assumption)) | (with_reducible refine Below.alloc ?_ ?_ _) | go_size)
theorem of_any (a : Int) (w : World) (h0 : -9223372036854775808 ≤ a) (h1 : a ≤ 9223372036854775807) :
    Calls Try.prog 73 #[.int .i64 a] w (RetW a w) :=
  (of_w a _ _ w rfl (by rw [IntKind.wrap_u64, uw_eq])).mono fun e w' ⟨he, hb⟩ => ⟨_, _, he, of_at h0 h1, hb⟩
theorem mul_w (a b : Int) (p q h l : Nat) (s : Bool) (z : Int) (w : World) (ra : ∀ w, Calls Try.prog 68 #[.int .i64 a] w fun e w' => e = .returned (.int .u64 (p : Int)) ∧ w = w') (rb : ∀ w, Calls Try.prog 68 #[.int .i64 b] w fun e w' => e = .returned (.int .u64 (q : Int)) ∧ w = w')
    (rm : ∀ w, Calls Try.prog 72 #[.int .u64 p, .int .u64 q] w fun e w' => e = .returned (.tuple #[.int .u64 (h : Int), .int .u64 (l : Int)]) ∧ w' = w)
    (hs : Hid ((!(decide (a < 0) == decide (b < 0))) = s)) (rs : ∀ w, Calls Try.prog 71 #[.agg #[.int .u64 h, .int .u64 l], .bool s] w (RetW z w)) :
    Calls Try.prog 52 #[.int .i64 a, .int .i64 b] w (RetW z w) := by
  have RA := Lib.hid ra
  have RB := Lib.hid rb
  have RM := Lib.hid rm
  have RS := Lib.hid rs
  clear ra rb rm rs
  go_enter Try.func52, Try.ntmps52
  go_wp2_with fail
  refine (RA.out _).mono ?_
  rintro e w' ⟨rfl, rfl⟩
  go_wp2_with fail
  refine (RB.out _).mono ?_
  rintro e w' ⟨rfl, rfl⟩
  go_wp2_with fail
  refine (RM.out _).mono ?_
  rintro e w' ⟨rfl, rfl⟩
  go_wp2_with fail
  rw [hs.out]
  refine (RS.out _).mono ?_
  rintro e w1 ⟨H, n, rfl, hat, hb⟩
  have hat := Lib.hid hat
  obtain ⟨hc, hf⟩ := bcell hb
  have hs := hb.size
  simp only [World.size_alloc] at hs
  have hz0 : w.heap.size < w1.heap.size := by omega
  go_wp2
  refine bodyPost_ret (v := .agg #[.int .i64 H, .int .u64 n]) (by simp [results, Try.results52, go_sem, *]) rfl ⟨_, _, rfl, hat.out, ?_⟩
  repeat' (first | (with_reducible exact Below.refl _ _) | (with_reducible assumption) | (with_reducible refine Below.drew ?_) | (with_reducible refine Below.setCell ?_ ?_ _) | (with_reducible refine bnext ?_ (by assumption)) | (with_reducible refine Below.alloc ?_ ?_ _) | go_size)
theorem mul_any (a b : Int) (w : World) (ha0 : -9223372036854775808 ≤ a) (ha1 : a ≤ 9223372036854775807) (hb0 : -9223372036854775808 ≤ b) (hb1 : b ≤ 9223372036854775807) :
    Calls Try.prog 52 #[.int .i64 a, .int .i64 b] w (RetW (a * b) w) := by
  have M := (mul_na a b ha0 ha1 hb0 hb1).1
  refine mul_w a b a.natAbs b.natAbs _ _ _ _ w (fun w => size_any a w ha0 ha1) (fun w => size_any b w hb0 hb1) (fun w => Try.bits_Mul64 _ _ (by omega) (by omega) w) (Lib.hid rfl) (fun w => ?_)
  have S := sign_any _ _ _ (decide (a < 0) != decide (b < 0)) w M
  rw [mul_sign, w128_in (mul_in a b ha0 ha1 hb0 hb1)] at S
  exact S
end Go.Proofs.Ytgkglkoipocgaaa.Fx
