/- Package wide: numbers without a sign, divided; the plain numbers of a division. -/
import Derived.Test.YtgkglkoipocgaaaProg
import Derived.Test.YtgkglkoipocgaaaW3
import Derived.Test.YtgkglkoipocgaaaWe
import Derived.Test.YtgkglkoipocgaaaW5
import Derived.Test.YtgkglkoipocgaaaDv2
import Derived.Test.YtgkglkoipocgaaaShelf
import Derived.BigQuiet
import Derived.Deep.QuietTactic
set_option linter.unusedVariables false
set_option linter.unusedSimpArgs false
namespace Go.Proofs.Ytgkglkoipocgaaa.Wm
/-- a quotient rounded down -/
def dv (x c : Int) : Int := if 0 < c then x / c else (-x) / (-c)
def rs (x c : Int) : Int := x - dv x c * c
theorem neg_div {N C : Nat} (hC : 0 < C) : (-(N : Int)) / (C : Int) = if N % C = 0 then -((N / C : Nat) : Int) else -((N / C + 1 : Nat) : Int) := by
  have h := Nat.div_add_mod N C
  have hr := Nat.mod_lt N hC
  generalize N / C = q at *
  generalize N % C = r at *
  have e : (C : Int) * (q : Int) + (r : Int) = (N : Int) := by rw [← h]; simp
  split
  · rename_i h0
    subst h0
    refine ((Int.ediv_emod_unique (r := 0) (by omega)).2 ⟨?_, by omega, by omega⟩).1
    rw [Int.mul_neg]
    omega
  · rename_i h0
    refine ((Int.ediv_emod_unique (r := (C : Int) - (r : Int)) (by omega)).2 ⟨?_, by omega, by omega⟩).1
    rw [Int.mul_neg, Int.natCast_add, Int.mul_add]
    omega
/-- the same signs -/
theorem dv_like {x c : Int} (hc : c ≠ 0) (h : x < 0 ↔ c < 0) : dv x c = ((x.natAbs / c.natAbs : Nat) : Int) ∧ rs x c = if c < 0 then -((x.natAbs % c.natAbs : Nat) : Int) else ((x.natAbs % c.natAbs : Nat) : Int) := by
  have e := Nat.div_add_mod x.natAbs c.natAbs
  have e2 : (c.natAbs : Int) * ((x.natAbs / c.natAbs : Nat) : Int) + ((x.natAbs % c.natAbs : Nat) : Int) = (x.natAbs : Int) := by rw [← Int.natCast_mul, ← Int.natCast_add, e]
  have d : dv x c = ((x.natAbs / c.natAbs : Nat) : Int) := by
    unfold dv
    by_cases c0 : c < 0
    · rw [if_neg (by omega), Int.natCast_ediv, show -x = (x.natAbs : Int) from by omega, show -c = (c.natAbs : Int) from by omega]
    · rw [if_pos (by omega), Int.natCast_ediv, show (x.natAbs : Int) = x from by omega, show (c.natAbs : Int) = c from by omega]
  refine ⟨d, ?_⟩
  unfold rs
  rw [d]
  generalize x.natAbs / c.natAbs = q at *
  generalize x.natAbs % c.natAbs = r at *
  by_cases c0 : c < 0
  · rw [if_pos c0]
    have : (c.natAbs : Int) = -c := by omega
    rw [this, Int.neg_mul] at e2
    rw [Int.mul_comm]
    omega
  · rw [if_neg c0]
    have : (c.natAbs : Int) = c := by omega
    rw [this] at e2
    rw [Int.mul_comm]
    omega
theorem dv_unlike {x c : Int} (hc : c ≠ 0) (h : ¬ (x < 0 ↔ c < 0)) :
    (x.natAbs % c.natAbs = 0 → dv x c = -((x.natAbs / c.natAbs : Nat) : Int) ∧ rs x c = 0) ∧
    (x.natAbs % c.natAbs ≠ 0 → dv x c = -((x.natAbs / c.natAbs + 1 : Nat) : Int) ∧ rs x c = if c < 0 then -((c.natAbs - x.natAbs % c.natAbs : Nat) : Int) else ((c.natAbs - x.natAbs % c.natAbs : Nat) : Int)) := by
  have hp : 0 < c.natAbs := by omega
  have e := Nat.div_add_mod x.natAbs c.natAbs
  have hr := Nat.mod_lt x.natAbs hp
  have e2 : (c.natAbs : Int) * ((x.natAbs / c.natAbs : Nat) : Int) + ((x.natAbs % c.natAbs : Nat) : Int) = (x.natAbs : Int) := by rw [← Int.natCast_mul, ← Int.natCast_add, e]
  have d : dv x c = (-(x.natAbs : Int)) / (c.natAbs : Int) := by
    unfold dv
    by_cases c0 : c < 0
    · rw [if_neg (by omega), show -x = -(x.natAbs : Int) from by omega, show -c = (c.natAbs : Int) from by omega]
    · rw [if_pos (by omega), show -(x.natAbs : Int) = x from by omega, show (c.natAbs : Int) = c from by omega]
  rw [neg_div hp] at d
  generalize x.natAbs / c.natAbs = q at *
  generalize x.natAbs % c.natAbs = r at *
  refine ⟨fun h0 => ?_, fun h0 => ?_⟩
  · rw [if_pos h0] at d
    refine ⟨d, ?_⟩
    unfold rs
    rw [d, Int.neg_mul, Int.mul_comm]
    by_cases c0 : c < 0
    · rw [show (c.natAbs : Int) = -c from by omega, Int.neg_mul] at e2
      omega
    · rw [show (c.natAbs : Int) = c from by omega] at e2
      omega
  · rw [if_neg h0] at d
    refine ⟨d, ?_⟩
    unfold rs
    rw [d, Int.neg_mul, Int.mul_comm, Int.natCast_add, Int.mul_add]
    by_cases c0 : c < 0
    · rw [if_pos c0]
      rw [show (c.natAbs : Int) = -c from by omega, Int.neg_mul] at e2
      omega
    · rw [if_neg c0]
      rw [show (c.natAbs : Int) = c from by omega] at e2
      omega
end Go.Proofs.Ytgkglkoipocgaaa.Wm
namespace Go.Proofs.Ytgkglkoipocgaaa.Fx
open Go Go.RowKit Wm
theorem wrap_nat {n : Nat} (h : n < 18446744073709551616) : IntKind.u64.wrap (n : Int) = (n : Int) := by rw [IntKind.wrap_u64]; omega
theorem bdrewN {B : Nat} {a w : World} (n : Nat) (h : Below B a w) : Below B a (w.drewN n) := ⟨h.os, h.tape, h.output, h.size, h.block⟩
/-- answers the quotient q and the rest r -/
def RetQ (q r : Nat) (w : World) (e : Ending) (w' : World) : Prop := ∃ h l : Nat, e = .returned (.tuple #[.agg #[.int .u64 h, .int .u64 l], .int .u64 r]) ∧ Na q h l ∧ Below w.heap.size w w'
theorem by_w (h l c q r a b : Nat) (w : World) (hc : ¬ (c : Int) = 0) (e1 : (h : Int) / (c : Int) = (q : Int)) (e2 : (h : Int) % (c : Int) = (r : Int)) (e3 : IntKind.u64.wrap (q : Int) = (q : Int))
    (hd : ∀ w, Calls Try.prog 78 #[.int .u64 r, .int .u64 l, .int .u64 c] w fun e w' => e = .returned (.tuple #[.int .u64 (a : Int), .int .u64 (b : Int)]) ∧ ∃ n, w' = w.drewN n) :
    Calls Try.prog 67 #[.agg #[.int .u64 h, .int .u64 l], .int .u64 c] w fun e w' => e = .returned (.tuple #[.agg #[.int .u64 q, .int .u64 a], .int .u64 b]) ∧ Below w.heap.size w w' := by
  have HD := Lib.hid hd
  clear hd
  go_enter Try.func67, Try.ntmps67
  go_wp2
  go_quiet (fail)
  go_wp2_with fail
  refine (HD.out _).mono ?_
  rintro e w' ⟨rfl, n, rfl⟩
  go_wp2
  refine bodyPost_ret (v := .tuple #[.agg #[.int .u64 q, .int .u64 a], .int .u64 b]) (by simp [results, Try.results67, go_sem, *]) rfl ⟨rfl, ?_⟩
  repeat' (first | (with_reducible exact Below.refl _ _) | (with_reducible assumption) | (with_reducible refine Below.drew ?_) | (with_reducible refine bdrewN _ ?_) | (with_reducible refine Below.setCell ?_ ?_ _) | (with_reducible refine bnext ?_ (by assumption)) | (with_reducible refine Below.alloc ?_ ?_ _) | go_size)
theorem by_any (x h l c : Nat) (w : World) (a : Na x h l) (hc : 0 < c) (hc2 : c < 18446744073709551616) :
    Calls Try.prog 67 #[.agg #[.int .u64 h, .int .u64 l], .int .u64 c] w (RetQ (x / c) (x % c) w) := by
  have D := na_div a hc hc2
  have hl := a.2.1
  have hr := Nat.mod_lt h hc
  have hq : h / c < 18446744073709551616 := Nat.lt_of_le_of_lt (Nat.div_le_self _ _) a.2.2
  rw [D.2]
  exact (by_w h l c (h / c) (h % c) _ _ w (by omega) (Int.natCast_ediv h c).symm (Int.natCast_emod h c).symm (wrap_nat hq)
    (fun w => div_any (h % c) l c w (fun w => Try.bits_LeadingZeros64 (c : Int) w (by omega) (by omega)) hc2 hl hr)).mono fun e w' ⟨he, hb⟩ => ⟨_, _, he, D.1, hb⟩
/-- answers a quotient, a rest and an error -/
def RetD (q : Int) (r s : Int) (w : World) (e : Ending) (w' : World) : Prop := ∃ h : Int, ∃ l : Nat, e = .returned (.tuple #[.agg #[.int .i64 h, .int .u64 l], .int .i64 r, .int .i64 s]) ∧ At q h l ∧ Below w.heap.size w w'
end Go.Proofs.Ytgkglkoipocgaaa.Fx
