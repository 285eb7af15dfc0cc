/- The closed law of layer 1, walked at its own numbers. -/
import Derived.Test.YtabfdhecbbemjaaProg
import Derived.Test.YtabfdhecbbemjaaAlive
import Derived.Test.YtabfdhecbbemjaaBack
import Derived.WalkKit
import Derived.KernelRfl
set_option linter.unusedVariables false
set_option linter.unusedSimpArgs false
namespace Go.Proofs.Ytabfdhecbbemjaa.Fx
open Go Go.RowKit
theorem text_at (a : Int) (t : ByteArray) (x : Int) (w : World) (a0 : -9223372036854775808 ≤ a) (a1 : a ≤ 9223372036854775807) (ht : (if Fm.mayB a = true then bstr (tx a) else ⟨#[]⟩) = t) (hx : (if Fm.mayB a = true then (0 : Int) else 10) = x) :
    Calls Try.prog 23 #[.int .i64 a] w fun e w' => e = .returned (.tuple #[.string t, .int .i64 x]) ∧ _root_.Go.RowKit.Below w.heap.size w w' := by
  subst ht hx
  exact text_any a w a0 a1
theorem parse_at (s : ByteArray) (v x : Int) (w : World) (hs : s.size ≤ 100) (hv : pv s = v) (hx : pe s = x) :
    Calls Try.prog 25 #[.string s] w fun e w' => e = .returned (.tuple #[.int .i64 v, .int .i64 x]) ∧ _root_.Go.RowKit.Below w.heap.size w w' := by
  subst hv hx
  exact parse_any s w hs
theorem add_at (a b v x : Int) (w : World) (hv : Fm.ovV a b (a + b) = v) (hx : Fm.ovE a b (a + b) = x) : Calls Try.prog 10 #[.int .i64 a, .int .i64 b] w fun e w' => e = .returned (.tuple #[.int .i64 v, .int .i64 x]) ∧ w = w' := by
  subst hv hx
  exact add_any a b w
theorem of_at (n v x : Int) (w : World) (h0 : -9223372036854775808 ≤ n) (h1 : n ≤ 9223372036854775807) (hv : (if Fm.mayB (n * 65536) = true then n * 65536 else 0) = v) (hx : (if Fm.mayB (n * 65536) = true then (0 : Int) else 10) = x) :
    Calls Try.prog 14 #[.int .i64 n] w fun e w' => e = .returned (.tuple #[.int .i64 v, .int .i64 x]) ∧ w = w' := by
  subst hv hx
  exact of_any n w h0 h1
theorem floor_at (a v : Int) (w : World) (h0 : -9223372036854775808 ≤ a) (h1 : a ≤ 9223372036854775807) (hv : a / 65536 = v) : Calls Try.prog 16 #[.int .i64 a] w fun e w' => e = .returned (.int .i64 v) ∧ w = w' := by
  subst hv
  exact floor_any a w h0 h1
theorem clamp_at (a b c v : Int) (w : World) (hv : (if a < b then b else if c < a then c else a) = v) : Calls Try.prog 18 #[.int .i64 a, .int .i64 b, .int .i64 c] w fun e w' => e = .returned (.int .i64 v) ∧ w = w' := by
  subst hv
  exact clamp_any a b c w
set_option maxHeartbeats 4000000 in
set_option maxRecDepth 100000 in
theorem walk_fixedNames (w : World) : Calls Try.prog 6 #[] w fun e w' => e = .returned (.bool true) ∧ _root_.Go.RowKit.Below w.heap.size w w' := by
  have hGP := _root_.Go.RowKit.Below.refl w.heap.size w
  go_enter Try.func6, Try.ntmps6
  go_wp2_with fail
  refine (fdiv_at 65536 196608 21845 0 _ (by decide) (by decide +kernel) (by decide +kernel)).mono ?_
  rintro e w' ⟨rfl, n1, rfl⟩
  go_wp2_with fail
  refine (fdiv_at (-65536) 196608 (-21846) 0 _ (by decide) (by decide +kernel) (by decide +kernel)).mono ?_
  rintro e w' ⟨rfl, n2, rfl⟩
  go_wp2_with fail
  refine (fdiv_zero 1 _).mono ?_
  rintro e w' ⟨rfl, rfl⟩
  go_wp2_with fail
  refine (text_at 98304 { data := #[49, 46, 56, 48, 48, 48] } 0 _ (by omega) (by omega) (by kernel_rfl) (by decide +kernel)).mono ?_
  rintro e W4 ⟨rfl, hB4⟩
  have hGP := bnext hGP (bdrew _ hB4)
  go_wp2_with fail
  refine (text_at (-1) { data := #[45, 48, 46, 48, 48, 48, 49] } 0 _ (by omega) (by omega) (by kernel_rfl) (by decide +kernel)).mono ?_
  rintro e W5 ⟨rfl, hB5⟩
  have hGP := bnext hGP hB5
  go_wp2_with fail
  refine (parse_at { data := #[45, 48, 46, 48, 48, 48, 48] } 0 12 _ (by decide) (by decide +kernel) (by decide +kernel)).mono ?_
  rintro e W6 ⟨rfl, hB6⟩
  have hGP := bnext hGP hB6
  go_wp2_with fail
  refine (parse_at { data := #[49, 46, 56] } 0 12 _ (by decide) (by decide +kernel) (by decide +kernel)).mono ?_
  rintro e W7 ⟨rfl, hB7⟩
  have hGP := bnext hGP hB7
  go_wp2_with fail
  refine (add_at 4611686018427387904 0 4611686018427387904 0 _ (by decide +kernel) (by decide +kernel)).mono ?_
  rintro e w' ⟨rfl, rfl⟩
  go_wp2_with fail
  refine (add_at 4611686018427387904 1 0 10 _ (by decide +kernel) (by decide +kernel)).mono ?_
  rintro e w' ⟨rfl, rfl⟩
  go_wp2_with fail
  refine (fmul_at 4611686018427387904 131072 0 10 _ (by decide +kernel) (by decide +kernel)).mono ?_
  rintro e w' ⟨rfl, n10, rfl⟩
  go_wp2_with fail
  refine (fmul_at 4611686018427387904 (-65536) (-4611686018427387904) 0 _ (by decide +kernel) (by decide +kernel)).mono ?_
  rintro e w' ⟨rfl, n11, rfl⟩
  go_wp2_with fail
  refine (text_at 4611686018427387905 { data := #[] } 10 _ (by omega) (by omega) (by kernel_rfl) (by decide +kernel)).mono ?_
  rintro e W12 ⟨rfl, hB12⟩
  have hGP := bnext hGP (bdrew _ hB12)
  go_wp2_with fail
  refine (of_at 70368744177665 0 10 _ (by omega) (by omega) (by decide +kernel) (by decide +kernel)).mono ?_
  rintro e w' ⟨rfl, rfl⟩
  go_wp2_with fail
  refine (of_at (-70368744177664) (-4611686018427387904) 0 _ (by omega) (by omega) (by decide +kernel) (by decide +kernel)).mono ?_
  rintro e w' ⟨rfl, rfl⟩
  go_wp2_with fail
  refine (fdiv_at 4611686018427387904 1 0 10 _ (by decide) (by decide +kernel) (by decide +kernel)).mono ?_
  rintro e w' ⟨rfl, n15, rfl⟩
  go_wp2_with fail
  refine (alive_any _).mono ?_
  rintro e w' ⟨rfl, n16, rfl⟩
  go_wp2_with fail
  refine (is_yes _ _).mono ?_
  rintro e w' ⟨rfl, rfl⟩
  go_wp2_with fail
  refine (is_yes _ _).mono ?_
  rintro e w' ⟨rfl, rfl⟩
  go_wp2_with fail
  refine (is_yes _ _).mono ?_
  rintro e w' ⟨rfl, rfl⟩
  go_wp2_with fail
  refine (is_yes _ _).mono ?_
  rintro e w' ⟨rfl, rfl⟩
  go_wp2_with fail
  refine (is_yes _ _).mono ?_
  rintro e w' ⟨rfl, rfl⟩
  go_wp2_with fail
  refine (floor_at (-1) (-1) _ (by omega) (by omega) (by decide)).mono ?_
  rintro e w' ⟨rfl, rfl⟩
  go_wp2_with fail
  refine (clamp_at 5 1 3 3 _ (by decide)).mono ?_
  rintro e w' ⟨rfl, rfl⟩
  go_wp2_with fail
  go_ret
  exact ⟨rfl, hGP.trans (bdrew0 _ _ _)⟩
end Go.Proofs.Ytabfdhecbbemjaa.Fx
