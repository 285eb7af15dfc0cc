/- The laws' walks at their own bounds. -/
import Derived.Test.YtknggdlhndffeaaProg
import Derived.Test.YtknggdlhndffeaaW8
import Derived.RowKit3
import Derived.OpenShut
set_option linter.unusedVariables false
namespace Go.Proofs.Ytknggdlhndffeaa.Fx
open Go Go.RowKit Wm
theorem wf_at {h l : Int} (wh : (Lit.int .i64 h).wf = true) (wl : (Lit.int .u64 l).wf = true) : ∃ n : Nat, l = (n : Int) ∧ At (h * 18446744073709551616 + l) h n := by
  obtain ⟨a, b⟩ := bounds_i64 wh
  obtain ⟨c, d⟩ := bounds_u64 wl
  refine ⟨l.toNat, by omega, ?_⟩
  unfold At
  omega
theorem law_wideRests (h : Int) (wh : (Lit.int .i64 h).wf = true) (l : Int) (wl : (Lit.int .u64 l).wf = true) (a : Int) (wa : (Lit.int .i64 a).wf = true) (c : Int) (wc : (Lit.int .i64 c).wf = true) (w : World) :
    Calls Try.prog 7 #[.agg #[.int .i64 h, .int .u64 l], .int .i64 a, .int .i64 c] w fun e w' => e = .returned (.bool true) ∧ Below w.heap.size w w' := by
  obtain ⟨n, hn, hat⟩ := wf_at wh wl
  subst hn
  exact walk_wideRests _ h n a c w hat (bounds_i64 wa).1 (bounds_i64 wa).2 (bounds_i64 wc).1 (bounds_i64 wc).2
end Go.Proofs.Ytknggdlhndffeaa.Fx
