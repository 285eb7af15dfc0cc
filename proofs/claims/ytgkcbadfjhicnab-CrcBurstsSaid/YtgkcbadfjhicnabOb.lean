/- Bytes and pairs of numbers as parameters: what they hold. -/
import Derived.Test.YtgkcbadfjhicnabProg
import Derived.Test.YtgkcbadfjhicnabCs
import Derived.WalkKit
import Derived.ProofKit
import Derived.OpenShut
import Derived.Carry
import Derived.Lib.SmallJoins
set_option linter.unusedVariables false
namespace Go.Proofs.Ytgkcbadfjhicnab.Fx
open Go Go.RowKit Go.ChangeShapes Go.WideShapes
theorem laidOut : laidOutB Try.prog = true := by kernel_rfl
variable {H : Type} {enc : TypeId × Value → H} {P : Program} {w : World} {base : Nat} {held : Bool}
theorem okWide_array {r : Reach} {b0 n : Nat} {t e : TypeId} {v : Value} (ht : P.underlying t = some (.array n e)) (h : Value.okWide P w r b0 t v) : ∃ cs : Array Value, v = .agg cs := by
  unfold Value.okWide at h
  simp only [ht] at h
  obtain ⟨cs, rfl, _⟩ := h
  exact ⟨cs, rfl⟩
theorem nats_of : ∀ (zs : List Int), (∀ n ∈ zs, (Lit.int .u8 n).wf = true) → ∃ l : List Nat, zs = l.map (fun x : Nat => (x : Int)) ∧ By l
  | [], _ => ⟨[], rfl, by intro c hc; cases hc⟩
  | z :: zs, h => by
    have hz := h z (by simp)
    have hz2 : 0 ≤ z ∧ z < 256 := by
      simp [Lit.wf, IntKind.min, IntKind.max, IntKind.signed, IntKind.bits] at hz
      omega
    obtain ⟨l, rfl, hl⟩ := nats_of zs fun n hn => h n (by simp [hn])
    refine ⟨z.toNat :: l, by simp; omega, fun c hc => ?_⟩
    rcases List.mem_cons.1 hc with rfl | hc
    · omega
    · exact hl c hc
/-- bytes that came in -/
theorem open_bytes {r : Reach} {b0 : Nat} {t e : TypeId} {v : Value} {d : DataW H} {ps : List MemPlace} (ht : P.underlying t = some (.slice e)) (he : P.underlying e = some (.int .u8)) (hc : P.cellsOf e = 1)
    (hv : Value.okWide P w r b0 t v) (h : DataW.Trod enc P w base (fun _ => true) held t v d ps) :
    ∃ (l : List Nat) (o : Option Addr) (cap : Nat), v = .slice o l.length cap ∧ By l ∧ l.length ≤ 9223372036854775807 ∧ (l.length ≤ cap ∧ cap ≤ 9223372036854775807 ∧ (o = none → cap = 0)) ∧ Bs w o l := by
  obtain ⟨a1, len, cap, rfl⟩ := okWide_slice ht hv
  obtain ⟨fuel, hf⟩ := h
  rcases open_ints ht he hc hf with ⟨hcs, hx⟩ | ⟨a, len', cap', zs, hcs, _, hl, hm, hz, hx, hcell, hwz⟩
  · simp [Value.cells] at hcs
    obtain ⟨rfl, rfl, rfl⟩ := hcs
    exact ⟨[], none, 0, rfl, (by intro c hc; cases hc), by simp, by simp, fun j hj => absurd hj (by simp)⟩
  · simp [Value.cells] at hcs
    obtain ⟨rfl, rfl, rfl⟩ := hcs
    simp only [if_true] at hz
    obtain ⟨m, rfl, hby⟩ := nats_of zs hwz
    rw [List.length_map] at hz
    have hlen : (m.take len).length = len := by simp; omega
    refine ⟨m.take len, some a, cap, by rw [hlen], hby.take _, by rw [hlen]; unfold maxLen at hm; omega, by rw [hlen]; unfold maxLen at hm; exact ⟨hl, by omega, fun h => by cases h⟩, fun j hj => ?_⟩
    rw [hlen] at hj
    obtain ⟨ab, ao, spot⟩ := a
    have hspot : spot = none := by simpa [Addr.add] using World.cell?_spot (hcell 0 (by rw [List.length_map]; omega))
    subst hspot
    have hcj := hcell j (by rw [List.length_map]; omega)
    rw [Addr.add_lit] at hcj
    refine ⟨ab, ao, rfl, hcj.trans ?_⟩
    have e1 : (m.map (fun x : Nat => (x : Int))).getD j 0 = ((m[j]'(by omega) : Nat) : Int) := by simp [List.getD, List.getElem?_eq_getElem (show j < m.length by omega)]
    have e2 : (m.take len).getD j 0 = m[j]'(by omega) := by simp [List.getD, hj, List.getElem?_eq_getElem (show j < m.length by omega)]
    rw [e1, e2]
/-- a pair of numbers of 32 bits that came in -/
theorem open_pair {r : Reach} {b0 : Nat} {t e : TypeId} {v : Value} {d : DataW H} {ps : List MemPlace} (ht : P.underlying t = some (.array 2 e)) (he : P.underlying e = some (.int .u32)) (hc : P.cellsOf e = 1) (hC : P.cellsOf t = 2)
    (hv : Value.okWide P w r b0 t v) (h : DataW.Trod enc P w base (fun _ => true) held t v d ps) :
    ∃ x0 x1 : Nat, v = .agg #[.int .u32 (x0 : Int), .int .u32 (x1 : Int)] ∧ x0 < 4294967296 ∧ x1 < 4294967296 ∧ ps = [] := by
  obtain ⟨cs, rfl⟩ := okWide_array ht hv
  obtain ⟨fuel, hf⟩ := h
  obtain ⟨xs, m, _, hx, hl, hlen, hel⟩ := DataW.trod_array ht hf
  have one : ∀ i, i < 2 → ∃ x : Nat, (Value.agg cs).cells.toList[i]? = some (.int .u32 (x : Int)) ∧ x < 4294967296 ∧ ∀ y, xs[i]? = some y → y.2 = [] := by
    intro i hi
    have h1 := hel i hi
    rw [hc, Nat.mul_one] at h1
    obtain ⟨y, hy⟩ : ∃ y, xs[i]? = some y := ⟨xs[i]'(by omega), by simp [show i < xs.length by omega]⟩
    rw [hy] at h1
    obtain ⟨z, e1, rfl, hz⟩ := DataW.trod_int he h1
    have hz2 : 0 ≤ z ∧ z < 4294967296 := by
      simp [Lit.wf, IntKind.min, IntKind.max, IntKind.signed, IntKind.bits] at hz
      omega
    refine ⟨z.toNat, ?_, by omega, fun y' hy' => by rw [hy] at hy'; cases hy'; rfl⟩
    have : (((Value.agg cs).cells.toList.drop i).take 1)[0]? = some (Value.int .u32 z) := by rw [e1]; rfl
    rw [show ((z.toNat : Nat) : Int) = z by omega]
    simpa [List.getElem?_take, List.getElem?_drop] using this
  obtain ⟨x0, c0, b0', p0⟩ := one 0 (by omega)
  obtain ⟨x1, c1, b1', p1⟩ := one 1 (by omega)
  have hl2 : (Value.agg cs).cells.toList.length = 2 := hl.trans hC
  refine ⟨x0, x1, ?_, b0', b1', ?_⟩
  · have hcs : (Value.agg cs).cells = cs := rfl
    rw [hcs] at c0 c1 hl2
    congr 1
    apply Array.ext_getElem?
    intro i
    by_cases h0 : i = 0
    · subst h0; simpa using c0
    by_cases h1 : i = 1
    · subst h1; simpa using c1
    have : cs.size = 2 := by simpa using hl2
    rw [Array.getElem?_eq_none (by omega), Array.getElem?_eq_none (by simp; omega)]
  · have e : ps = xs.flatMap (·.2) := by
      have := congrArg Prod.snd hx
      simpa using this
    rw [e, List.flatMap_eq_nil_iff]
    intro y hy
    obtain ⟨i, hi⟩ := List.getElem?_of_mem hy
    have hin : i < 2 := by
      have := (List.getElem?_eq_some_iff.1 hi).1
      omega
    obtain rfl | rfl : i = 0 ∨ i = 1 := by omega
    · exact p0 y hi
    · exact p1 y hi
end Go.Proofs.Ytgkcbadfjhicnab.Fx
