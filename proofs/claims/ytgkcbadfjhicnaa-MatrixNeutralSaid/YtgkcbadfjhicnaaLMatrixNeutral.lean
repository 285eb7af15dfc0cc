/- The identity changes nothing; Across of a product is the product of both Across, the other way about. -/
import Derived.Test.YtgkcbadfjhicnaaRows
import Derived.Test.YtgkcbadfjhicnaaNl
import Derived.WalkKit
import Derived.ProofKit
import Derived.OpenShut
import Derived.ChangeMaps5
import Derived.Lib.SmallJoins
import Derived.Test.YtgkcbadfjhicnaaOp
namespace Go.Proofs.Ytgkcbadfjhicnaa.matrixNeutral
open Go.ChangeShapes Go.WideShapes Go.ChangeAt Go.RowKit Go.ChangeMaps
set_option linter.unusedVariables false
theorem own : ownKnob Try.prog.godebug = none := by kernel_rfl
theorem walk (a0 : List Int) (l0 : a0.length = 16) (w0 : ∀ j, -9223372036854775808 ≤ a0.getD j 0 ∧ a0.getD j 0 ≤ 9223372036854775807) (a1 : List Int) (l1 : a1.length = 16) (w1 : ∀ j, -9223372036854775808 ≤ a1.getD j 0 ∧ a1.getD j 0 ≤ 9223372036854775807) (a2 : List Int) (l2 : a2.length = 4) (w2 : ∀ j, -9223372036854775808 ≤ a2.getD j 0 ∧ a2.getD j 0 ≤ 9223372036854775807) (w : World)  :
    Calls Try.prog 8 #[.agg (Fx.mC a0), .agg (Fx.mC a1), .agg (Fx.mC a2)] w fun e w' => e = .returned (.bool true) ∧ Below w.heap.size w w' := by
  exact Fx.law_matrixNeutral a0 a1 a2 l0 l1 l2 w
set_option maxRecDepth 100000 in
theorem lifted (os : Os) (started : os.Started) (H : Type) (enc : TypeId × Value → H) :
    ReturnsInHanded {} Try.checked os 8 .any (Rows.matrixNeutralSpec.pre6 enc Try.prog Try.f8 Rows.matrixNeutralRow.domain false) (Rows.matrixNeutralSpec.post enc Try.prog Try.f8 false true false false) := by
  refine returnsInHanded_of_change (C := Try.checked) own started (by kernel_rfl) Try.func8
    (ChangeSpec.witness6 (enc := enc) (C := Try.checked) false ⟨#[], #[.agg #[.int .i64 0, .int .i64 0, .int .i64 0, .int .i64 0, .int .i64 0, .int .i64 0, .int .i64 0, .int .i64 0, .int .i64 0, .int .i64 0, .int .i64 0, .int .i64 0, .int .i64 0, .int .i64 0, .int .i64 0, .int .i64 0], .agg #[.int .i64 0, .int .i64 0, .int .i64 0, .int .i64 0, .int .i64 0, .int .i64 0, .int .i64 0, .int .i64 0, .int .i64 0, .int .i64 0, .int .i64 0, .int .i64 0, .int .i64 0, .int .i64 0, .int .i64 0, .int .i64 0], .agg #[.int .i64 0, .int .i64 0, .int .i64 0, .int .i64 0]], []⟩ 8 (by kernel_rfl) (by kernel_rfl) (by kernel_rfl) (by kernel_rfl)) ?_
  intro W base args ds gs before hval0 hW hcnd _
  have hval : ∀ (j : Nat) t v, Try.f8.params[j]? = some t → args[j]? = some v → Value.okWide Try.prog W .any base t v := hval0
  have hW' := hW
  obtain ⟨p, q, hA0, hV, rfl, hfz, hnd⟩ := hW
  have hA : DataW.TrodAll enc Try.prog W 0 (fun _ => true) true Try.f8.params.toList args.toList ds p := hA0
  rw [Try.params8] at hA hval
  obtain ⟨v0, vs0, d0, ds0, p0, q0, hargs, rfl, rfl, h0, r0⟩ := trodAll_cons hA
  obtain ⟨v1, vs1, d1, ds1, p1, q1, rfl, rfl, rfl, h1, r1⟩ := trodAll_cons r0
  obtain ⟨v2, vs2, d2, ds2, p2, q2, rfl, rfl, rfl, h2, r2⟩ := trodAll_cons r1
  obtain ⟨rfl, rfl, rfl⟩ := trodAll_nil r2
  obtain rfl : args = #[v0, v1, v2] := by cases args; simp_all
  obtain ⟨rfl, rfl⟩ := trodVars_none hV
  have k0 := h0
  obtain ⟨a0, rfl, l0, w0, rfl⟩ := Fx.open_mat Try.underlying64 Try.underlying62 Try.underlying2 (by kernel_rfl) (by kernel_rfl) (by kernel_rfl) (by omega) (hval 0 64 v0 rfl rfl) h0
  have k1 := h1
  obtain ⟨a1, rfl, l1, w1, rfl⟩ := Fx.open_mat Try.underlying64 Try.underlying62 Try.underlying2 (by kernel_rfl) (by kernel_rfl) (by kernel_rfl) (by omega) (hval 1 64 v1 rfl rfl) h1
  have k2 := h2
  obtain ⟨a2, rfl, l2, w2, rfl⟩ := Fx.open_vec Try.underlying62 Try.underlying2 (by kernel_rfl) (by kernel_rfl) (hval 2 62 v2 rfl rfl) h2
  clear hA0 hval0
  simp only [List.append_nil] at hW'
  refine (walk a0 l0 w0 a1 l1 w1 a2 l2 w2 W ).mono fun e W' ⟨he, bel⟩ => ?_
  subst he
  exact ⟨_, rfl, _, _, _, [], [], [], hW', trodAll_mk1 (shut_bool Try.underlying4 _), (trodAll_cons_mk (Below.trod Fx.laidOut (by kernel_rfl) (of_decide_eq_true (by kernel_rfl)) k0 bel (by simp)) (trodAll_cons_mk (Below.trod Fx.laidOut (by kernel_rfl) (of_decide_eq_true (by kernel_rfl)) k1 bel (by simp)) (trodAll_cons_mk (Below.trod Fx.laidOut (by kernel_rfl) (of_decide_eq_true (by kernel_rfl)) k2 bel (by simp)) trodAll_mk0))), rfl, bel.frame _, fun h => by cases h⟩
theorem over : Rows.matrixNeutralRow.holds Try.pinned (OpenSpec.ofChange Rows.matrixNeutralSpec) :=
  OpenClaim.holds_of_wide 8 Try.f8 rfl rfl rfl rfl rfl rfl rfl ⟨rfl, rfl, rfl, rfl, rfl⟩ rfl rfl rfl rfl rfl (by kernel_rfl) Try.func8 (by kernel_rfl)
    (of_decide_eq_true (by kernel_rfl)) (by unfold Func.isWrapper; first | (rw [if_pos (by decide +kernel)]; kernel_rfl) | (rw [if_neg (by decide +kernel)]; exact ⟨rfl, rfl⟩))
    (fun os started H enc _ => lifted os started H enc)
theorem proved : Rows.MatrixNeutralSaid :=
  over
#print axioms proved
end Go.Proofs.Ytgkcbadfjhicnaa.matrixNeutral
