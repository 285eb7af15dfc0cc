/- For every matrix and vector, cut to the bounds MaxBoth and MaxCoord, Apply succeeds and the numbers are below 2^43. -/
import Derived.Test.YtjeolpgmhgfahaaRows
import Derived.Test.YtjeolpgmhgfahaaBo
import Derived.WalkKit
import Derived.ProofKit
import Derived.OpenShut
import Derived.ChangeMaps5
import Derived.Lib.SmallJoins
import Derived.Test.YtjeolpgmhgfahaaOp
namespace Go.Proofs.Ytjeolpgmhgfahaa.matrixBounds
open Go.ChangeShapes Go.WideShapes Go.ChangeAt Go.RowKit Go.ChangeMaps
set_option linter.unusedVariables false
theorem own : ownKnob Try.prog.godebug = none := by kernel_rfl
theorem walk (a0 : List Int) (l0 : a0.length = 16) (w0 : ∀ j, -9223372036854775808 ≤ a0.getD j 0 ∧ a0.getD j 0 ≤ 9223372036854775807) (a1 : List Int) (l1 : a1.length = 4) (w1 : ∀ j, -9223372036854775808 ≤ a1.getD j 0 ∧ a1.getD j 0 ≤ 9223372036854775807) (w : World) :
    Calls Try.prog 11 #[.agg (Fx.mC a0), .agg (Fx.mC a1)] w fun e w' => e = .returned (.bool true) ∧ Below w.heap.size w w' := by
  exact Fx.walk_matrixBounds a0 a1 w l0 l1 w0 w1
set_option maxRecDepth 100000 in
theorem lifted (os : Os) (started : os.Started) (H : Type) (enc : TypeId × Value → H) :
    ReturnsInHanded {} Try.checked os 11 .any (Rows.matrixBoundsSpec.pre6 enc Try.prog Try.f11 Rows.matrixBoundsRow.domain false) (Rows.matrixBoundsSpec.post enc Try.prog Try.f11 false true false false) := by
  refine returnsInHanded_of_change (C := Try.checked) own started (by kernel_rfl) Try.func11
    (ChangeSpec.witness6 (enc := enc) (C := Try.checked) false ⟨#[], #[.agg #[.int .i64 0, .int .i64 0, .int .i64 0, .int .i64 0, .int .i64 0, .int .i64 0, .int .i64 0, .int .i64 0, .int .i64 0, .int .i64 0, .int .i64 0, .int .i64 0, .int .i64 0, .int .i64 0, .int .i64 0, .int .i64 0], .agg #[.int .i64 0, .int .i64 0, .int .i64 0, .int .i64 0]], []⟩ 8 (by kernel_rfl) (by kernel_rfl) (by kernel_rfl) (by kernel_rfl)) ?_
  intro W base args ds gs before hval0 hW hcnd _
  have hval : ∀ (j : Nat) t v, Try.f11.params[j]? = some t → args[j]? = some v → Value.okWide Try.prog W .any base t v := hval0
  have hW' := hW
  obtain ⟨p, q, hA0, hV, rfl, hfz, hnd⟩ := hW
  have hA : DataW.TrodAll enc Try.prog W 0 (fun _ => true) true Try.f11.params.toList args.toList ds p := hA0
  rw [Try.params11] at hA hval
  obtain ⟨v0, vs0, d0, ds0, p0, q0, hargs, rfl, rfl, h0, r0⟩ := trodAll_cons hA
  obtain ⟨v1, vs1, d1, ds1, p1, q1, rfl, rfl, rfl, h1, r1⟩ := trodAll_cons r0
  obtain ⟨rfl, rfl, rfl⟩ := trodAll_nil r1
  obtain rfl : args = #[v0, v1] := by cases args; simp_all
  obtain ⟨rfl, rfl⟩ := trodVars_none hV
  have k0 := h0
  obtain ⟨a0, rfl, l0, w0, rfl⟩ := Fx.open_mat Try.underlying64 Try.underlying62 Try.underlying2 (by kernel_rfl) (by kernel_rfl) (by kernel_rfl) (by omega) (hval 0 64 v0 rfl rfl) h0
  have k1 := h1
  obtain ⟨a1, rfl, l1, w1, rfl⟩ := Fx.open_vec Try.underlying62 Try.underlying2 (by kernel_rfl) (by kernel_rfl) (hval 1 62 v1 rfl rfl) h1
  clear hA0 hval0
  simp only [List.append_nil] at hW'
  refine (walk a0 l0 w0 a1 l1 w1 W).mono fun e W' ⟨he, bel⟩ => ?_
  subst he
  exact ⟨_, rfl, _, _, _, [], [], [], hW', trodAll_mk1 (shut_bool Try.underlying4 _), (trodAll_cons_mk (Below.trod Fx.laidOut (by kernel_rfl) (of_decide_eq_true (by kernel_rfl)) k0 bel (by simp)) (trodAll_cons_mk (Below.trod Fx.laidOut (by kernel_rfl) (of_decide_eq_true (by kernel_rfl)) k1 bel (by simp)) trodAll_mk0)), rfl, bel.frame _, fun h => by cases h⟩
theorem over : Rows.matrixBoundsRow.holds Try.pinned (OpenSpec.ofChange Rows.matrixBoundsSpec) :=
  OpenClaim.holds_of_wide 11 Try.f11 rfl rfl rfl rfl rfl rfl rfl ⟨rfl, rfl, rfl, rfl, rfl⟩ rfl rfl rfl rfl rfl (by kernel_rfl) Try.func11 (by kernel_rfl)
    (of_decide_eq_true (by kernel_rfl)) (by unfold Func.isWrapper; first | (rw [if_pos (by decide +kernel)]; kernel_rfl) | (rw [if_neg (by decide +kernel)]; exact ⟨rfl, rfl⟩))
    (fun os started H enc _ => lifted os started H enc)
theorem proved : Rows.MatrixBoundsSaid :=
  over
#print axioms proved
end Go.Proofs.Ytjeolpgmhgfahaa.matrixBounds
