/- The reference's products and quotients at every two numbers; the law on products and quotients, walked. -/
import Derived.Test.YtabfdhecbbemjaaProg
import Derived.Test.YtabfdhecbbemjaaRMul
import Derived.Test.YtabfdhecbbemjaaRDiv
import Derived.Test.YtabfdhecbbemjaaAlive
import Derived.WalkKit
import Derived.RowKit3
import Derived.OpenShut
set_option linter.unusedVariables false
set_option linter.unusedSimpArgs false
namespace Go.Proofs.Ytabfdhecbbemjaa.Fx
open Go.RowKit
theorem rmul_out (a b : Int) (w : World)  (h : ¬ (Fm.mayB a = true ∧ Fm.mayB b = true)) :
    Calls Try.prog 20 #[.int .i64 a, .int .i64 b] w fun e w' => e = .returned (.tuple #[.int .i64 (Fm.ovV a b (Fm.dn (a * b) 65536)), .int .i64 (Fm.ovE a b (Fm.dn (a * b) 65536))]) ∧ ∃ n, w' = w.drewN n := by
  rw [(ov_out (not_both' h)).1, (ov_out (not_both' h)).2]
  have A := rmay_any a
  have B := rmay_any b
  cases h1 : Fm.mayB a with
  | false =>
    rw [h1] at A
    clear h
    go_enter Try.func20, Try.ntmps20
    go_wp2_with fail
    refine (A _).mono ?_
    rintro e w' ⟨rfl, rfl⟩
    go_wp2_with fail
    refine (B _).mono ?_
    rintro e w' ⟨rfl, rfl⟩
    go_wp2_with fail
    go_ret2
    exact ⟨rfl, 0, rfl⟩
  | true =>
    cases h2 : Fm.mayB b with
    | true => exact absurd ⟨h1, h2⟩ h
    | false =>
      rw [h1] at A
      rw [h2] at B
      clear h
      go_enter Try.func20, Try.ntmps20
      go_wp2_with fail
      refine (A _).mono ?_
      rintro e w' ⟨rfl, rfl⟩
      go_wp2_with fail
      refine (B _).mono ?_
      rintro e w' ⟨rfl, rfl⟩
      go_wp2_with fail
      go_ret2
      exact ⟨rfl, 0, rfl⟩
theorem rdiv_out (a b : Int) (w : World) (hz : b ≠ 0) (h : ¬ (Fm.mayB a = true ∧ Fm.mayB b = true)) :
    Calls Try.prog 22 #[.int .i64 a, .int .i64 b] w fun e w' => e = .returned (.tuple #[.int .i64 (Fm.ovV a b (Fm.dn (a * 65536) b)), .int .i64 (Fm.ovE a b (Fm.dn (a * 65536) b))]) ∧ w = w' := by
  rw [(ov_out (not_both' h)).1, (ov_out (not_both' h)).2]
  have A := rmay_any a
  have B := rmay_any b
  have tz : (b == 0) = false := by simp; omega
  clear hz
  cases h1 : Fm.mayB a with
  | false =>
    rw [h1] at A
    clear h
    go_enter Try.func22, Try.ntmps22
    go_wp2_with fail
    refine (A _).mono ?_
    rintro e w' ⟨rfl, rfl⟩
    go_wp2_with fail
    refine (B _).mono ?_
    rintro e w' ⟨rfl, rfl⟩
    go_wp2_with fail
    go_ret2
    exact ⟨rfl, rfl⟩
  | true =>
    cases h2 : Fm.mayB b with
    | true => exact absurd ⟨h1, h2⟩ h
    | false =>
      rw [h1] at A
      rw [h2] at B
      clear h
      go_enter Try.func22, Try.ntmps22
      go_wp2_with fail
      refine (A _).mono ?_
      rintro e w' ⟨rfl, rfl⟩
      go_wp2_with fail
      refine (B _).mono ?_
      rintro e w' ⟨rfl, rfl⟩
      go_wp2_with fail
      go_ret2
      exact ⟨rfl, rfl⟩

theorem rmul_any (a b : Int) (w : World) : Calls Try.prog 20 #[.int .i64 a, .int .i64 b] w fun e w' => e = .returned (.tuple #[.int .i64 (Fm.ovV a b (Fm.dn (a * b) 65536)), .int .i64 (Fm.ovE a b (Fm.dn (a * b) 65536))]) ∧ ∃ n, w' = w.drewN n := by
  by_cases h : Fm.mayB a = true ∧ Fm.mayB b = true
  · exact rmul_in a b w h.1 h.2
  · exact rmul_out a b w h
theorem rdiv_any (a b : Int) (w : World) (hz : b ≠ 0) : Calls Try.prog 22 #[.int .i64 a, .int .i64 b] w fun e w' => e = .returned (.tuple #[.int .i64 (Fm.ovV a b (Fm.dn (a * 65536) b)), .int .i64 (Fm.ovE a b (Fm.dn (a * 65536) b))]) ∧ w = w' := by
  by_cases h : Fm.mayB a = true ∧ Fm.mayB b = true
  · exact rdiv_in a b w hz h.1 h.2
  · exact rdiv_out a b w hz h
theorem rdiv_zero (a : Int) (w : World) : Calls Try.prog 22 #[.int .i64 a, .int .i64 0] w fun e w' => e = .returned (.tuple #[.int .i64 0, .int .i64 11]) ∧ w = w' := by
  go_enter Try.func22, Try.ntmps22
  go_wp2_with fail
  go_ret2
  exact ⟨rfl, rfl⟩
set_option maxHeartbeats 800000 in
theorem walk_fixedProducts (a0 : Int) (a1 : Int) (w0 : (Lit.int .i64 a0).wf = true) (w1 : (Lit.int .i64 a1).wf = true) (w : World) :
    Calls Try.prog 4 #[.int .i64 a0, .int .i64 a1] w fun e w' => e = .returned (.bool true) ∧ Grown w w' := by
  clear w0 w1
  have hA := fmul_any a0 a1
  have hB := rmul_any a0 a1
  generalize Fm.ovV a0 a1 (Fm.dn (a0 * a1) 65536) = x1 at hA hB
  generalize Fm.ovE a0 a1 (Fm.dn (a0 * a1) 65536) = x2 at hA hB
  by_cases hz : a1 = 0
  · subst hz
    have hC := fdiv_zero a0
    have hD := rdiv_zero a0
    go_enter Try.func4, Try.ntmps4
    go_wp2_with fail
    refine (hA _).mono ?_
    rintro e w' ⟨rfl, n1, rfl⟩
    go_wp2_with fail
    refine (hB _).mono ?_
    rintro e w' ⟨rfl, n2, rfl⟩
    go_wp2_with fail
    refine (hC _).mono ?_
    rintro e w' ⟨rfl, rfl⟩
    go_wp2_with fail
    refine (hD _).mono ?_
    rintro e w' ⟨rfl, rfl⟩
    go_wp2_with fail
    go_ret
    exact ⟨rfl, grown_drewN _⟩
  · have hC := fun w => fdiv_any a0 a1 hz w
    have hD := fun w => rdiv_any a0 a1 w hz
    generalize Fm.ovV a0 a1 (Fm.dn (a0 * 65536) a1) = x3 at hC hD
    generalize Fm.ovE a0 a1 (Fm.dn (a0 * 65536) a1) = x4 at hC hD
    clear hz
    go_enter Try.func4, Try.ntmps4
    go_wp2_with fail
    refine (hA _).mono ?_
    rintro e w' ⟨rfl, n1, rfl⟩
    go_wp2_with fail
    refine (hB _).mono ?_
    rintro e w' ⟨rfl, n2, rfl⟩
    go_wp2_with fail
    refine (hC _).mono ?_
    rintro e w' ⟨rfl, n3, rfl⟩
    go_wp2_with fail
    refine (hD _).mono ?_
    rintro e w' ⟨rfl, rfl⟩
    go_wp2_with fail
    go_ret
    exact ⟨rfl, grown_drewN _⟩
end Go.Proofs.Ytabfdhecbbemjaa.Fx
