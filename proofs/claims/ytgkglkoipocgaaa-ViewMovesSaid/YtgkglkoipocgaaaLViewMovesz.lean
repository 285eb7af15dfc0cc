/- The identity makes of vertices what they are, what is moved is moved by just that, and two parts of a list are the whole: the law ViewMoves is true for every list and every move. -/
import Derived.Test.YtgkglkoipocgaaaRows
import Derived.Test.YtgkglkoipocgaaaMbz
import Derived.WalkKit
import Derived.ProofKit
import Derived.OpenShut
import Derived.ChangeMaps5
import Derived.Lib.SmallJoins
import Derived.Test.YtgkglkoipocgaaaZd
import Derived.Test.YtgkglkoipocgaaaOp
namespace Go.Proofs.Ytgkglkoipocgaaa.viewMoves
open Go.ChangeShapes Go.WideShapes Go.ChangeAt Go.RowKit Go.ChangeMaps
set_option linter.unusedVariables false
theorem own : ownKnob Try.prog.godebug = none := by kernel_rfl
theorem walk (a0 : List (List Int)) (o0 : Option Addr) (c0 : Nat) (m0 : Fx.CapOk o0 a0.length c0) (a1x a1y a1z : Int) (w1x : -2147483648 ≤ a1x ∧ a1x ≤ 2147483647) (w1y : -2147483648 ≤ a1y ∧ a1y ≤ 2147483647) (w1z : -2147483648 ≤ a1z ∧ a1z ≤ 2147483647) (w : World) (s0 : Fx.VertsAt w o0 a0) :
    Calls Try.prog 10 #[.slice o0 a0.length c0, .agg #[.int .i32 a1x, .int .i32 a1y, .int .i32 a1z]] w fun e w' => e = .returned (.bool true) ∧ Below w.heap.size w w' := by
  exact Fx.law_viewMoves Fx.view10 Fx.thr10 a0 o0 c0 m0 a1x a1y a1z w1x w1y w1z w s0
set_option maxRecDepth 100000 in
theorem lifted (os : Os) (started : os.Started) (H : Type) (enc : TypeId × Value → H) :
    ReturnsInHanded {} Try.checked os 10 .any (Rows.viewMovesSpec.pre6 enc Try.prog Try.f10 Rows.viewMovesRow.domain false) (Rows.viewMovesSpec.post enc Try.prog Try.f10 false true false false) := by
  refine returnsInHanded_of_change (C := Try.checked) own started (by kernel_rfl) Try.func10
    (ChangeSpec.witness6 (enc := enc) (C := Try.checked) false ⟨#[], #[.slice none 0 0, .agg #[.int .i32 0, .int .i32 0, .int .i32 0]], []⟩ 8 (by kernel_rfl) (by kernel_rfl) (by kernel_rfl) (by kernel_rfl)) ?_
  intro W base args ds gs before hval0 hW hcnd _
  have hval : ∀ (j : Nat) t v, Try.f10.params[j]? = some t → args[j]? = some v → Value.okWide Try.prog W .any base t v := hval0
  have hW' := hW
  obtain ⟨p, q, hA0, hV, rfl, hfz, hnd⟩ := hW
  have hA : DataW.TrodAll enc Try.prog W 0 (fun _ => true) true Try.f10.params.toList args.toList ds p := hA0
  rw [Try.params10] at hA hval
  obtain ⟨v0, vs0, d0, ds0, p0, q0, hargs, rfl, rfl, h0, r0⟩ := trodAll_cons hA
  obtain ⟨v1, vs1, d1, ds1, p1, q1, rfl, rfl, rfl, h1, r1⟩ := trodAll_cons r0
  obtain ⟨rfl, rfl, rfl⟩ := trodAll_nil r1
  obtain rfl : args = #[v0, v1] := by cases args; simp_all
  obtain ⟨rfl, rfl⟩ := trodVars_none hV
  have k0 := h0
  obtain ⟨a0, o0, c0, rfl, m0, s0⟩ := Fx.open_verts (hval 0 45 v0 rfl rfl) h0
  have k1 := h1
  obtain ⟨a1x, a1y, a1z, rfl, w1x, w1y, w1z, rfl⟩ := Fx.open_b3 (hval 1 61 v1 rfl rfl) h1
  clear hA0 hval0
  refine (walk a0 o0 c0 m0 a1x a1y a1z w1x w1y w1z W s0).mono fun e W' ⟨he, bel⟩ => ?_
  subst he
  exact ⟨_, rfl, _, _, _, [], _, [], hW', trodAll_mk1 (shut_bool Try.underlying4 _), (trodAll_cons_mk (Below.trod Fx.laidOut (by kernel_rfl) (of_decide_eq_true (by kernel_rfl)) k0 bel (fun x hx => by simpa using hW'.lt x (by simp [hx]))) (trodAll_cons_mk (Below.trod Fx.laidOut (by kernel_rfl) (of_decide_eq_true (by kernel_rfl)) k1 bel (by simp)) trodAll_mk0)), rfl, bel.frame _, fun h => by cases h⟩
theorem over : Rows.viewMovesRow.holds Try.pinned (OpenSpec.ofChange Rows.viewMovesSpec) :=
  OpenClaim.holds_of_wide 10 Try.f10 rfl rfl rfl rfl rfl rfl rfl ⟨rfl, rfl, rfl, rfl, rfl⟩ rfl rfl rfl rfl rfl (by kernel_rfl) Try.func10 (by kernel_rfl)
    (of_decide_eq_true (by kernel_rfl)) (by unfold Func.isWrapper; first | (rw [if_pos (by decide +kernel)]; kernel_rfl) | (rw [if_neg (by decide +kernel)]; exact ⟨rfl, rfl⟩))
    (fun os started H enc _ => lifted os started H enc)
theorem proved : Rows.ViewMovesSaid :=
  over
#print axioms proved
end Go.Proofs.Ytgkglkoipocgaaa.viewMoves
