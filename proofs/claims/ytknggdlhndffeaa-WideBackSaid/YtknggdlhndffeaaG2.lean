/- The law on texts and sums at its own bounds. -/
import Derived.Test.YtknggdlhndffeaaProg
import Derived.Test.YtknggdlhndffeaaB3
import Derived.Test.YtknggdlhndffeaaG
set_option linter.unusedVariables false
namespace Go.Proofs.Ytknggdlhndffeaa.Fx
open Go Go.RowKit Wm
theorem law_wideBack (xh : Int) (vh : (Lit.int .i64 xh).wf = true) (xl : Int) (vl : (Lit.int .u64 xl).wf = true) (yh : Int) (wh : (Lit.int .i64 yh).wf = true) (yl : Int) (wl : (Lit.int .u64 yl).wf = true)
    (zh : Int) (th : (Lit.int .i64 zh).wf = true) (zl : Int) (tl : (Lit.int .u64 zl).wf = true) (a : Int) (wa : (Lit.int .i64 a).wf = true) (b : Int) (wb : (Lit.int .i64 b).wf = true) (s : ByteArray) (hs : s.size ≤ maxLen) (w : World) :
    Calls Try.prog 8 #[.agg #[.int .i64 xh, .int .u64 xl], .agg #[.int .i64 yh, .int .u64 yl], .agg #[.int .i64 zh, .int .u64 zl], .int .i64 a, .int .i64 b, .string s] w fun e w' => e = .returned (.bool true) ∧ Below w.heap.size w w' := by
  obtain ⟨n, hn, hx⟩ := wf_at vh vl
  obtain ⟨m, hm, hy⟩ := wf_at wh wl
  obtain ⟨k, hk, hz⟩ := wf_at th tl
  subst hn hm hk
  exact walk_wideBack _ _ _ xh yh zh a b n m k s w hx hy hz (bounds_i64 wa).1 (bounds_i64 wa).2 (bounds_i64 wb).1 (bounds_i64 wb).2 hs
end Go.Proofs.Ytknggdlhndffeaa.Fx
