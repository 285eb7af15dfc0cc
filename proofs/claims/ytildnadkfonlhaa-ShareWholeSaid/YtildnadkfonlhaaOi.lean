/- Slices of numbers of 64 bits as parameters: what they hold. -/
import Derived.Test.YtildnadkfonlhaaProg
import Derived.Test.YtildnadkfonlhaaPr
import Derived.WalkKit
import Derived.ProofKit
import Derived.OpenShut
import Derived.Carry
import Derived.Lib.SmallJoins
set_option linter.unusedVariables false
namespace Go.Proofs.Ytildnadkfonlhaa.Fx
open Go Go.RowKit Go.ChangeShapes Go.WideShapes
theorem laidOut : laidOutB Try.prog = true := by kernel_rfl
variable {H : Type} {enc : TypeId × Value → H} {P : Program} {w : World} {base : Nat} {held : Bool}
theorem i64_of {z : Int} (h : (Lit.int .i64 z).wf = true) : -9223372036854775808 ≤ z ∧ z ≤ 9223372036854775807 := by
  simp [Lit.wf, IntKind.min, IntKind.max, IntKind.signed, IntKind.bits] at h
  omega
/-- numbers of 64 bits that came in -/
theorem open_i64s {r : Reach} {b0 : Nat} {t e : TypeId} {v : Value} {d : DataW H} {ps : List MemPlace} (ht : P.underlying t = some (.slice e)) (he : P.underlying e = some (.int .i64)) (hc : P.cellsOf e = 1)
    (hv : Value.okWide P w r b0 t v) (h : DataW.Trod enc P w base (fun _ => true) held t v d ps) :
    ∃ (l : List Int) (o : Option Addr) (cap : Nat), v = .slice o l.length cap ∧ (∀ j, -9223372036854775808 ≤ l.getD j 0 ∧ l.getD j 0 ≤ 9223372036854775807) ∧ l.length ≤ 9223372036854775807 ∧ (l.length ≤ cap ∧ cap ≤ 9223372036854775807 ∧ (o = none → cap = 0)) ∧ Sl w o l := by
  obtain ⟨a1, len, cap, rfl⟩ := okWide_slice ht hv
  obtain ⟨fuel, hf⟩ := h
  rcases open_ints ht he hc hf with ⟨hcs, hx⟩ | ⟨a, len', cap', zs, hcs, _, hl, hm, hz, hx, hcell, hwz⟩
  · simp [Value.cells] at hcs
    obtain ⟨rfl, rfl, rfl⟩ := hcs
    exact ⟨[], none, 0, rfl, (by intro j; simp), by simp, by simp, fun j hj => absurd hj (by simp)⟩
  · simp [Value.cells] at hcs
    obtain ⟨rfl, rfl, rfl⟩ := hcs
    simp only [if_true] at hz
    have hlen : (zs.take len).length = len := by simp; omega
    refine ⟨zs.take len, some a, cap, by rw [hlen], fun j => ?_, by rw [hlen]; unfold maxLen at hm; omega, by rw [hlen]; unfold maxLen at hm; exact ⟨hl, by omega, fun h => by cases h⟩, fun j hj => ?_⟩
    · rw [List.getD_eq_getElem?_getD]
      cases hj : (zs.take len)[j]? with
      | none => simp
      | some z => exact i64_of (hwz z (List.mem_of_mem_take (List.mem_of_getElem? hj)))
    rw [hlen] at hj
    obtain ⟨ab, ao, spot⟩ := a
    have hspot : spot = none := by simpa [Addr.add] using World.cell?_spot (hcell 0 (by omega))
    subst hspot
    have hcj := hcell j (by omega)
    rw [Addr.add_lit] at hcj
    refine ⟨ab, ao, rfl, hcj.trans ?_⟩
    have e1 : zs.getD j 0 = zs[j]'(by omega) := by simp [List.getD, List.getElem?_eq_getElem (show j < zs.length by omega)]
    have e2 : (zs.take len).getD j 0 = zs[j]'(by omega) := by simp [List.getD, hj, List.getElem?_eq_getElem (show j < zs.length by omega)]
    rw [e1, e2]
end Go.Proofs.Ytildnadkfonlhaa.Fx
