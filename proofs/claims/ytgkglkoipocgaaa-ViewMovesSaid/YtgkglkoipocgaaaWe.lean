/- Package wide: checked numbers and their errors. -/
import Derived.Test.YtgkglkoipocgaaaProg
import Derived.Test.YtgkglkoipocgaaaW0
import Derived.Deep.RegionHeld3
import Derived.BigQuiet
import Derived.Deep.DeepFit
set_option linter.unusedVariables false
set_option linter.unusedSimpArgs false
namespace Go.Proofs.Ytgkglkoipocgaaa.Wm
/-- a checked number, and its error -/
def valE (z : Int) : Int := if In z then z else 0
def errE (z : Int) : Int := if In z then 0 else 20
theorem At.zero : At 0 0 0 := by unfold At; omega
theorem add_at {x y xh yh : Int} {xl yl : Nat} (hx : At x xh xl) (hy : At y yh yl) :
    At (w128 (x + y)) (((((uw xh + uw yh + (xl + yl) / 18446744073709551616) % 18446744073709551616 : Nat) : Int) + 9223372036854775808) % 18446744073709551616 - 9223372036854775808) ((xl + yl) % 18446744073709551616) := by
  have a := uw_eq xh
  have b := uw_eq yh
  have a' := uw_lt xh
  have b' := uw_lt yh
  generalize uw xh = p at *
  generalize uw yh = q at *
  unfold At w128 at *
  omega
theorem add_fits {x y z : Int} (hx : In x) (hy : In y) (hz : w128 (x + y) = z) : In (x + y) ↔ ((x < 0 ↔ y < 0) → (z < 0 ↔ x < 0)) := by
  subst hz
  unfold In w128 at *
  omega
theorem sub_fits {x y z : Int} (hx : In x) (hy : In y) (hz : w128 (x - y) = z) : In (x - y) ↔ (¬ (x < 0 ↔ y < 0) → (z < 0 ↔ x < 0)) := by
  subst hz
  unfold In w128 at *
  omega
end Go.Proofs.Ytgkglkoipocgaaa.Wm
namespace Go.Proofs.Ytgkglkoipocgaaa.Fx
open Go.RowKit Wm
/-- answers the number z, or its error -/
def RetE (z : Int) (w : World) (e : Ending) (w' : World) : Prop := ∃ h : Int, ∃ l : Nat, e = .returned (.tuple #[.agg #[.int .i64 h, .int .u64 l], .int .i64 (errE z)]) ∧ At (valE z) h l ∧ Below w.heap.size w w'
theorem ret_e {z z' h : Int} {l : Nat} {w w' : World} (hi : In z) (hz : w128 z = z') (ha : At z' h l) (hb : Below w.heap.size w w') : RetE z w (.returned (.tuple #[.agg #[.int .i64 h, .int .u64 l], .int .i64 0])) w' :=
  ⟨h, l, by rw [errE, if_pos hi], by rw [valE, if_pos hi]; rw [← w128_in hi, hz]; exact ha, hb⟩
theorem ret_no {z : Int} {w w' : World} (hi : ¬ In z) (hb : Below w.heap.size w w') : RetE z w (.returned (.tuple #[.agg #[.int .i64 0, .int .u64 0], .int .i64 20])) w' :=
  ⟨0, 0, by rw [errE, if_neg hi]; rfl, by rw [valE, if_neg hi]; exact At.zero, hb⟩
/-- what a step by words answers, in every world -/
def Words (f : Nat) (x y c s d : Nat) : Prop := ∀ w, (callFunc f #[.int .u64 x, .int .u64 y, .int .u64 c]).run Try.prog w = .ok (.value (.tuple #[.int .u64 (s : Int), .int .u64 (d : Int)])) w
def Words0 (f : Nat) (x y s d : Nat) : Prop := ∀ w, (callFunc f #[.int .u64 x, .int .u64 y, .int .u64 0]).run Try.prog w = .ok (.value (.tuple #[.int .u64 (s : Int), .int .u64 (d : Int)])) w
end Go.Proofs.Ytgkglkoipocgaaa.Fx
