/- Of any bytes the program reads just the scene that the document reads of them, or the same error, and tells as great a one as the document's Head; the bytes stay, and what is answered is new memory: for bytes of any length (beyond 20,000 the statement asks nothing). -/
import Derived.Test.YtbbhmhihpdmoiaaGreatRows
import Derived.Test.YtbbhmhihpdmoiaaGreatJr44
import Derived.WalkKit
import Derived.ProofKit
import Derived.OpenShut
import Derived.ChangeMaps5
import Derived.Lib.SmallJoins
import Derived.Test.YtbbhmhihpdmoiaaGreatJr08
namespace Go.Proofs.YtbbhmhihpdmoiaaGreat.formatReads
open Go.ChangeShapes Go.WideShapes Go.ChangeAt Go.RowKit Go.ChangeMaps
set_option linter.unusedVariables false
theorem own : ownKnob Tryz.prog.godebug = none := by kernel_rfl
theorem walk (a0 : List Nat) (o0 : Option Addr) (c0 : Nat) (b0 : Pk.By a0) (m0 : a0.length ≤ c0 ∧ c0 ≤ 9223372036854775807) (q0 : o0 = none → c0 = 0) (p0 : 0 < c0 → ∀ a, o0 = some a → a.spot = none) (w : World) (s0 : Pk.Bs w o0 a0) :
    Calls Tryz.prog 4 #[.slice o0 a0.length c0] w fun e w' => e = .returned (.bool true) ∧ Below w.heap.size w w' := by
  exact Fx.xD a0 o0 c0 b0 ⟨m0.1, m0.2, q0⟩ w s0
set_option maxRecDepth 100000 in
theorem lifted (os : Os) (started : os.Started) (H : Type) (enc : TypeId × Value → H) :
    ReturnsInHanded {} Tryz.checked os 4 .any (Rows.formatReadsSpec.pre6 enc Tryz.prog Tryz.f4 Rows.formatReadsRow.domain false) (Rows.formatReadsSpec.post enc Tryz.prog Tryz.f4 false true false false) := by
  refine returnsInHanded_of_change (C := Tryz.checked) own started (by kernel_rfl) Tryz.func4
    (ChangeSpec.witness6 (enc := enc) (C := Tryz.checked) false ⟨#[], #[.slice none 0 0], []⟩ 8 (by kernel_rfl) (by kernel_rfl) (by kernel_rfl) (by kernel_rfl)) ?_
  intro W base args ds gs before hval0 hW hcnd _
  have hval : ∀ (j : Nat) t v, Tryz.f4.params[j]? = some t → args[j]? = some v → Value.okWide Tryz.prog W .any base t v := hval0
  have hW' := hW
  obtain ⟨p, q, Rs, hV, rfl, hfz, hnd⟩ := hW
  have hA : DataW.TrodAll enc Tryz.prog W 0 (fun _ => true) true Tryz.f4.params.toList args.toList ds p := Rs
  rw [Tryz.params4] at hA hval
  obtain ⟨v0, vs0, d0, ds0, p0, q0, hargs, rfl, rfl, h0, r0⟩ := trodAll_cons hA
  obtain ⟨rfl, rfl, rfl⟩ := trodAll_nil r0
  obtain rfl : args = #[v0] := by cases args; simp_all
  obtain ⟨rfl, rfl⟩ := trodVars_none hV
  have k0 := h0
  obtain ⟨a0, o0, c0, rfl, b0, m0, q0, p0, s0⟩ := Pk.JM (hval 0 31 v0 rfl rfl) h0
  clear Rs hval0
  refine (walk a0 o0 c0 b0 m0 q0 p0 W s0).mono fun e W' ⟨he, jI⟩ => ?_
  subst he
  exact ⟨_, rfl, _, _, _, [], _, [], hW', trodAll_mk1 (shut_bool Tryz.underlying4 _), (trodAll_cons_mk (Below.trod Fx.laidOut (by kernel_rfl) (of_decide_eq_true (by kernel_rfl)) k0 jI (fun x hx => by simpa using hW'.lt x (by simp [hx]))) trodAll_mk0), rfl, jI.frame _, fun h => by cases h⟩
theorem over : Rows.formatReadsRow.holds Tryz.pinned (OpenSpec.ofChange Rows.formatReadsSpec) :=
  OpenClaim.holds_of_wide 4 Tryz.f4 rfl rfl rfl rfl rfl rfl rfl ⟨rfl, rfl, rfl, rfl, rfl⟩ rfl rfl rfl rfl rfl (by kernel_rfl) Tryz.func4 (by kernel_rfl)
    (of_decide_eq_true (by kernel_rfl)) (by unfold Func.isWrapper; first | (rw [aT (by decide +kernel)]; kernel_rfl) | (rw [aX (by decide +kernel)]; exact ⟨rfl, rfl⟩))
    (fun os started H enc _ => lifted os started H enc)
theorem proved : Rows.FormatReadsSaid :=
  over
#print axioms proved
end Go.Proofs.YtbbhmhihpdmoiaaGreat.formatReads
