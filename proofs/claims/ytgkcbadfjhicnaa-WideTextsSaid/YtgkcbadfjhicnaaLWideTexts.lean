/- Texts, and sums of products, are the document's, up to the lengths that the statement names. -/
import Derived.Test.YtgkcbadfjhicnaaRows
import Derived.Test.YtgkcbadfjhicnaaT5
import Derived.WalkKit
import Derived.ProofKit
import Derived.OpenShut
import Derived.ChangeMaps5
import Derived.Lib.SmallJoins
import Derived.Test.YtgkcbadfjhicnaaOi
namespace Go.Proofs.Ytgkcbadfjhicnaa.wideTexts
open Go.ChangeShapes Go.WideShapes Go.ChangeAt Go.RowKit Go.ChangeMaps
set_option linter.unusedVariables false
theorem own : ownKnob Try.prog.godebug = none := by kernel_rfl
theorem walk (a0h : Int) (w0h : (Lit.int .i64 a0h).wf = true) (a0l : Int) (w0l : (Lit.int .u64 a0l).wf = true) (a1 : ByteArray) (w1 : a1.size ≤ maxLen) (a2 : List Int) (o2 : Option Addr) (c2 : Nat) (b2 : ∀ j, -9223372036854775808 ≤ a2.getD j 0 ∧ a2.getD j 0 ≤ 9223372036854775807) (m2 : a2.length ≤ 9223372036854775807) (q2 : a2.length ≤ c2 ∧ c2 ≤ 9223372036854775807 ∧ (o2 = none → c2 = 0)) (a3 : List Int) (o3 : Option Addr) (c3 : Nat) (b3 : ∀ j, -9223372036854775808 ≤ a3.getD j 0 ∧ a3.getD j 0 ≤ 9223372036854775807) (m3 : a3.length ≤ 9223372036854775807) (q3 : a3.length ≤ c3 ∧ c3 ≤ 9223372036854775807 ∧ (o3 = none → c3 = 0)) (w : World) (s2 : Fx.Sl w o2 a2) (s3 : Fx.Sl w o3 a3) :
    Calls Try.prog 5 #[.agg #[.int .i64 a0h, .int .u64 a0l], .string a1, .slice o2 a2.length c2, .slice o3 a3.length c3] w fun e w' => e = .returned (.bool true) ∧ Below w.heap.size w w' := by
  exact Fx.law_wideTexts a0h w0h a0l w0l a1 w1 a2 o2 c2 b2 a3 o3 c3 b3 w s2 s3
set_option maxRecDepth 100000 in
theorem lifted (os : Os) (started : os.Started) (H : Type) (enc : TypeId × Value → H) :
    ReturnsInHanded {} Try.checked os 5 .any (Rows.wideTextsSpec.pre6 enc Try.prog Try.f5 Rows.wideTextsRow.domain false) (Rows.wideTextsSpec.post enc Try.prog Try.f5 false true false false) := by
  refine returnsInHanded_of_change (C := Try.checked) own started (by kernel_rfl) Try.func5
    (ChangeSpec.witness6 (enc := enc) (C := Try.checked) false ⟨#[], #[.agg #[.int .i64 0, .int .u64 0], .string ByteArray.empty, .slice none 0 0, .slice none 0 0], []⟩ 8 (by kernel_rfl) (by kernel_rfl) (by kernel_rfl) (by kernel_rfl)) ?_
  intro W base args ds gs before hval0 hW hcnd _
  have hval : ∀ (j : Nat) t v, Try.f5.params[j]? = some t → args[j]? = some v → Value.okWide Try.prog W .any base t v := hval0
  have hW' := hW
  obtain ⟨p, q, hA0, hV, rfl, hfz, hnd⟩ := hW
  have hA : DataW.TrodAll enc Try.prog W 0 (fun _ => true) true Try.f5.params.toList args.toList ds p := hA0
  rw [Try.params5] at hA hval
  obtain ⟨v0, vs0, d0, ds0, p0, q0, hargs, rfl, rfl, h0, r0⟩ := trodAll_cons hA
  obtain ⟨v1, vs1, d1, ds1, p1, q1, rfl, rfl, rfl, h1, r1⟩ := trodAll_cons r0
  obtain ⟨v2, vs2, d2, ds2, p2, q2, rfl, rfl, rfl, h2, r2⟩ := trodAll_cons r1
  obtain ⟨v3, vs3, d3, ds3, p3, q3, rfl, rfl, rfl, h3, r3⟩ := trodAll_cons r2
  obtain ⟨rfl, rfl, rfl⟩ := trodAll_nil r3
  obtain rfl : args = #[v0, v1, v2, v3] := by cases args; simp_all
  obtain ⟨rfl, rfl⟩ := trodVars_none hV
  have k0 := h0
  obtain ⟨u0a, u0b, y0a, y0b, n0, rfl, rfl, rfl, hy0a, hy0b⟩ := Joins.open_agg2 Try.underlying24 (by kernel_rfl) (by kernel_rfl) (hval 0 24 v0 rfl rfl) h0
  obtain ⟨a0h, e0a, rfl, w0h⟩ := DataW.trod_int Try.underlying2 hy0a
  obtain ⟨a0l, e0b, rfl, w0l⟩ := DataW.trod_int Try.underlying22 hy0b
  simp at e0a e0b
  subst e0a e0b
  obtain ⟨a1, rfl, rfl, rfl, w1⟩ := open_string Try.underlying9 (hval 1 9 v1 rfl rfl) h1
  have k2 := h2
  obtain ⟨a2, o2, c2, rfl, b2, m2, q2, s2⟩ := Fx.open_i64s Try.underlying54 Try.underlying2 (by kernel_rfl) (hval 2 54 v2 rfl rfl) h2
  have k3 := h3
  obtain ⟨a3, o3, c3, rfl, b3, m3, q3, s3⟩ := Fx.open_i64s Try.underlying54 Try.underlying2 (by kernel_rfl) (hval 3 54 v3 rfl rfl) h3
  clear hA0 hval0
  refine (walk a0h w0h a0l w0l a1 w1 a2 o2 c2 b2 m2 q2 a3 o3 c3 b3 m3 q3 W s2 s3).mono fun e W' ⟨he, bel⟩ => ?_
  subst he
  exact ⟨_, rfl, _, _, _, [], _, [], hW', trodAll_mk1 (shut_bool Try.underlying4 _), (trodAll_cons_mk (Below.trod Fx.laidOut (by kernel_rfl) (of_decide_eq_true (by kernel_rfl)) k0 bel (by simp)) (trodAll_cons_mk (shut_string Try.underlying9 w1) (trodAll_cons_mk (Below.trod Fx.laidOut (by kernel_rfl) (of_decide_eq_true (by kernel_rfl)) k2 bel (fun x hx => by simpa using hW'.lt x (by simp [hx]))) (trodAll_cons_mk (Below.trod Fx.laidOut (by kernel_rfl) (of_decide_eq_true (by kernel_rfl)) k3 bel (fun x hx => by simpa using hW'.lt x (by simp [hx]))) trodAll_mk0)))), rfl, bel.frame _, fun h => by cases h⟩
theorem over : Rows.wideTextsRow.holds Try.pinned (OpenSpec.ofChange Rows.wideTextsSpec) :=
  OpenClaim.holds_of_wide 5 Try.f5 rfl rfl rfl rfl rfl rfl rfl ⟨rfl, rfl, rfl, rfl, rfl⟩ rfl rfl rfl rfl rfl (by kernel_rfl) Try.func5 (by kernel_rfl)
    (of_decide_eq_true (by kernel_rfl)) (by unfold Func.isWrapper; first | (rw [if_pos (by decide +kernel)]; kernel_rfl) | (rw [if_neg (by decide +kernel)]; exact ⟨rfl, rfl⟩))
    (fun os started H enc _ => lifted os started H enc)
theorem proved : Rows.WideTextsSaid :=
  over
#print axioms proved
end Go.Proofs.Ytgkcbadfjhicnaa.wideTexts
