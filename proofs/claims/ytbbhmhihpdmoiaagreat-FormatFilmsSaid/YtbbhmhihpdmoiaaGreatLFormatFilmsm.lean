/- Of any film the program makes the bytes that the document makes, or the same error, and of any bytes the film that the document reads of them, or the same error; scenes stay, and what is answered is new memory: for films of any scenes (beyond 6, or scenes greater than statements go through, or beyond 20,000 bytes, the statement asks nothing). -/
import Derived.Test.YtbbhmhihpdmoiaaGreatRows
import Derived.Test.YtbbhmhihpdmoiaaGreatJf23
import Derived.WalkKit
import Derived.ProofKit
import Derived.OpenShut
import Derived.ChangeMaps5
import Derived.Lib.SmallJoins
import Derived.Test.YtbbhmhihpdmoiaaGreatJf02
namespace Go.Proofs.YtbbhmhihpdmoiaaGreat.formatFilms
open Go.ChangeShapes Go.WideShapes Go.ChangeAt Go.RowKit Go.ChangeMaps
set_option linter.unusedVariables false
theorem own : ownKnob Tryz.prog.godebug = none := by kernel_rfl
theorem walk (a0 : List Fx.eF) (o0 : Option Addr) (c0 : Nat) (m0 : Fx.pJ o0 a0.length c0) (a1 : List Nat) (o1 : Option Addr) (c1 : Nat) (b1 : Pk.By a1) (m1 : a1.length ≤ c1 ∧ c1 ≤ 9223372036854775807) (q1 : o1 = none → c1 = 0) (p1 : 0 < c1 → ∀ a, o1 = some a → a.spot = none) (w : World) (s0 : Fx.pE w o0 a0) (s1 : Pk.Bs w o1 a1) :
    Calls Tryz.prog 5 #[.slice o0 a0.length c0, .slice o1 a1.length c1] w fun e w' => e = .returned (.bool true) ∧ Below w.heap.size w w' := by
  exact Fx.zP a0 o0 c0 m0 a1 o1 c1 b1 ⟨m1.1, m1.2, q1⟩ w s0 s1
set_option maxRecDepth 100000 in
theorem lifted (os : Os) (started : os.Started) (H : Type) (enc : TypeId × Value → H) :
    ReturnsInHanded {} Tryz.checked os 5 .any (Rows.formatFilmsSpec.pre6 enc Tryz.prog Tryz.f5 Rows.formatFilmsRow.domain false) (Rows.formatFilmsSpec.post enc Tryz.prog Tryz.f5 false true false false) := by
  refine returnsInHanded_of_change (C := Tryz.checked) own started (by kernel_rfl) Tryz.func5
    (ChangeSpec.witness6 (enc := enc) (C := Tryz.checked) false ⟨#[], #[.slice none 0 0, .slice none 0 0], []⟩ 8 (by kernel_rfl) (by kernel_rfl) (by kernel_rfl) (by kernel_rfl)) ?_
  intro W base args ds gs before bf hW hcnd _
  have hval : ∀ (j : Nat) t v, Tryz.f5.params[j]? = some t → args[j]? = some v → Value.okWide Tryz.prog W .any base t v := bf
  have hW' := hW
  obtain ⟨p, q, hA0, hV, rfl, hfz, hnd⟩ := hW
  have hA : DataW.TrodAll enc Tryz.prog W 0 (fun _ => true) true Tryz.f5.params.toList args.toList ds p := hA0
  rw [Tryz.params5] at hA hval
  obtain ⟨v0, vs0, d0, ds0, p0, q0, hargs, rfl, rfl, h0, r0⟩ := trodAll_cons hA
  obtain ⟨v1, vs1, d1, ds1, p1, q1, rfl, rfl, rfl, h1, r1⟩ := trodAll_cons r0
  obtain ⟨rfl, rfl, rfl⟩ := trodAll_nil r1
  obtain rfl : args = #[v0, v1] := by cases args; simp_all
  obtain ⟨rfl, rfl⟩ := trodVars_none hV
  have k0 := h0
  obtain ⟨a0, o0, c0, rfl, m0, s0⟩ := Fx.QV (hval 0 52 v0 rfl rfl) h0
  have k1 := h1
  obtain ⟨a1, o1, c1, rfl, b1, m1, q1, p1, s1⟩ := Pk.QW (hval 1 31 v1 rfl rfl) h1
  clear hA0 bf
  refine (walk a0 o0 c0 m0 a1 o1 c1 b1 m1 q1 p1 W s0 s1).mono fun e W' ⟨he, gL⟩ => ?_
  subst he
  exact ⟨_, rfl, _, _, _, [], _, [], hW', trodAll_mk1 (shut_bool Tryz.underlying4 _), (trodAll_cons_mk (Below.trod Fx.laidOut (by kernel_rfl) (of_decide_eq_true (by kernel_rfl)) k0 gL (fun x hx => by simpa using hW'.lt x (by simp [hx]))) (trodAll_cons_mk (Below.trod Fx.laidOut (by kernel_rfl) (of_decide_eq_true (by kernel_rfl)) k1 gL (fun x hx => by simpa using hW'.lt x (by simp [hx]))) trodAll_mk0)), rfl, gL.frame _, fun h => by cases h⟩
theorem over : Rows.formatFilmsRow.holds Tryz.pinned (OpenSpec.ofChange Rows.formatFilmsSpec) :=
  OpenClaim.holds_of_wide 5 Tryz.f5 rfl rfl rfl rfl rfl rfl rfl ⟨rfl, rfl, rfl, rfl, rfl⟩ rfl rfl rfl rfl rfl (by kernel_rfl) Tryz.func5 (by kernel_rfl)
    (of_decide_eq_true (by kernel_rfl)) (by unfold Func.isWrapper; first | (rw [aZ (by decide +kernel)]; kernel_rfl) | (rw [bF (by decide +kernel)]; exact ⟨rfl, rfl⟩))
    (fun os started H enc _ => lifted os started H enc)
theorem proved : Rows.FormatFilmsSaid :=
  over
#print axioms proved
end Go.Proofs.YtbbhmhihpdmoiaaGreat.formatFilms
