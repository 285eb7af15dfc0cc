/- The law that texts are the reference's, walked. -/
import Derived.Test.YtabfdhecbbemjaaProg
import Derived.Test.YtabfdhecbbemjaaAlive
import Derived.Test.YtabfdhecbbemjaaRpa
import Derived.Test.YtabfdhecbbemjaaRtx
import Derived.Test.YtabfdhecbbemjaaBack
import Derived.WalkKit
import Derived.WalkSmall
import Derived.OpenShut
set_option linter.unusedVariables false
set_option linter.unusedSimpArgs false
namespace Go.Proofs.Ytabfdhecbbemjaa.Fx
open Go Go.RowKit
set_option maxHeartbeats 1600000 in
theorem walk_fixedTexts (a0 : Int) (s : ByteArray) (p0 : -9223372036854775808 ≤ a0) (p1 : a0 ≤ 9223372036854775807) (hs : s.size ≤ 9223372036854775807) (w : World) :
    Calls Try.prog 5 #[.int .i64 a0, .string s] w fun e w' => e = .returned (.bool true) ∧ _root_.Go.RowKit.Below w.heap.size w w' := by
  by_cases h100 : 100 < s.size
  · have t1 : (100 : Int) < (s.size : Int) := by omega
    go_enter Try.func5, Try.ntmps5
    go_wp2_with fail
    go_ret
    exact ⟨rfl, _root_.Go.RowKit.Below.refl _ _⟩
  · have t1 : ¬ (100 : Int) < (s.size : Int) := by omega
    have hT := fun w => text_any a0 w p0 p1
    have hU := fun w => rtext_any a0 w p0 p1
    have hP := fun w => parse_any s w (by omega)
    have hQ := fun w => rparse_any s w (by omega)
    have hpe : pe s = 0 ∨ pe s = 12 := by rcases pv_ok s with ⟨h, _⟩ | ⟨h, _⟩ <;> simp [h]
    generalize pv s = v at *
    generalize (if Fm.mayB a0 = true then bstr (tx a0) else ⟨#[]⟩) = t at *
    have he : (if Fm.mayB a0 = true then (0 : Int) else 10) = 0 ∨ (if Fm.mayB a0 = true then (0 : Int) else 10) = 10 := by split <;> simp
    generalize (if Fm.mayB a0 = true then (0 : Int) else 10) = x at *
    generalize pe s = y at *
    rcases he with rfl | rfl <;> rcases hpe with rfl | rfl
    all_goals
      go_enter Try.func5, Try.ntmps5
      go_wp2_with fail
      refine (hT _).mono ?_
      rintro e W2 ⟨rfl, hB2⟩
      go_wp2_with fail
      refine (hU _).mono ?_
      rintro e W3 ⟨rfl, hB3⟩
      go_wp2_with fail
      refine (hP _).mono ?_
      rintro e W4 ⟨rfl, hB4⟩
      go_wp2_with fail
      refine (hQ _).mono ?_
      rintro e W5 ⟨rfl, hB5⟩
      go_wp2_with fail
      go_ret
      exact ⟨rfl, bnext (bnext (bnext hB2 hB3) hB4) hB5⟩
end Go.Proofs.Ytabfdhecbbemjaa.Fx
