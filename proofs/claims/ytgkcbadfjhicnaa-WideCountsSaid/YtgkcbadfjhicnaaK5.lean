/- WideCounts, walked. -/
import Derived.Test.YtgkcbadfjhicnaaProg
import Derived.Test.YtgkcbadfjhicnaaK4
import Derived.Test.YtgkcbadfjhicnaaW4
import Derived.Test.YtgkcbadfjhicnaaW5
import Derived.Test.YtgkcbadfjhicnaaW3
set_option linter.unusedVariables false
set_option linter.unusedSimpArgs false
namespace Go.Proofs.Ytgkcbadfjhicnaa.Fx
open Go Go.RowKit Wm
theorem wide_one (h : Int) (l : Nat) : (#[.int .i64 h, .int .u64 l] : Array Value).all (·.oneCell') = true := by
  rw [Array.all_eq_true_iff_forall_mem]
  intro v hv
  simp only [List.mem_toArray, List.mem_cons, List.not_mem_nil, or_false] at hv
  rcases hv with rfl | rfl <;> rfl
end Go.Proofs.Ytgkcbadfjhicnaa.Fx
