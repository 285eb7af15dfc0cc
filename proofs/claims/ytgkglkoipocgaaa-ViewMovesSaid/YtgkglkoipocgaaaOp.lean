/- Arrays of numbers as parameters: what they hold. -/
import Derived.Test.YtgkglkoipocgaaaProg
import Derived.Test.YtgkglkoipocgaaaAc
import Derived.WalkKit
import Derived.ProofKit
import Derived.OpenShut
import Derived.Carry
import Derived.Lib.SmallJoins
set_option linter.unusedVariables false
namespace Go.Proofs.Ytgkglkoipocgaaa.Fx
open Go Go.RowKit Go.ChangeShapes Go.WideShapes
variable {H : Type} {enc : TypeId × Value → H} {P : Program} {w : World} {base : Nat} {spare : Nat → Bool} {held : Bool}
theorem okWide_array {r : Reach} {b0 n : Nat} {t e : TypeId} {v : Value} (ht : P.underlying t = some (.array n e)) (h : Value.okWide P w r b0 t v) : ∃ cs : Array Value, v = .agg cs := by
  unfold Value.okWide at h
  simp only [ht] at h
  obtain ⟨cs, rfl, _⟩ := h
  exact ⟨cs, rfl⟩
theorem ints_of : ∀ (cs : List Value), (∀ v ∈ cs, ∃ z, v = .int .i64 z ∧ (Lit.int .i64 z).wf = true) → ∃ m : List Int, cs = m.map encI ∧ ∀ z ∈ m, (Lit.int .i64 z).wf = true
  | [], _ => ⟨[], rfl, by simp⟩
  | v :: cs, h => by
    obtain ⟨z, rfl, hz⟩ := h v (by simp)
    obtain ⟨m, rfl, hm⟩ := ints_of cs fun u hu => h u (by simp [hu])
    refine ⟨z :: m, rfl, fun x hx => ?_⟩
    rcases List.mem_cons.1 hx with rfl | hx
    · exact hz
    · exact hm x hx
theorem flat_nil {xs : List (DataW H × List MemPlace)} (h : ∀ (i : Nat) (y : DataW H × List MemPlace), xs[i]? = some y → y.2 = []) : xs.flatMap (·.2) = [] := by
  rw [List.flatMap_eq_nil_iff]
  intro y hy
  obtain ⟨i, hi⟩ := List.getElem?_of_mem hy
  exact h i y hi
/-- an array of numbers -/
theorem trod_ints {fuel n : Nat} {t e : TypeId} {cs : List Value} {x : DataW H × List MemPlace} (ht : P.underlying t = some (.array n e)) (he : P.underlying e = some (.int .i64)) (hc : P.cellsOf e = 1) (hC : P.cellsOf t = n)
    (h : DataW.trod enc P w base spare held fuel t cs = some x) : (∀ v ∈ cs, ∃ z, v = .int .i64 z ∧ (Lit.int .i64 z).wf = true) ∧ cs.length = n ∧ x.2 = [] := by
  obtain ⟨xs, m, _, rfl, hl, hlen, hf⟩ := DataW.trod_array ht h
  have hone : ∀ i, i < n → ∃ z, cs[i]? = some (.int .i64 z) ∧ (Lit.int .i64 z).wf = true ∧ ∀ y, xs[i]? = some y → y.2 = [] := by
    intro i hi
    have h1 := hf i hi
    rw [hc, Nat.mul_one] at h1
    obtain ⟨y, hy⟩ : ∃ y, xs[i]? = some y := ⟨xs[i]'(by omega), by simp [show i < xs.length by omega]⟩
    rw [hy] at h1
    obtain ⟨z, e1, rfl, hz⟩ := DataW.trod_int he h1
    refine ⟨z, ?_, hz, fun y' hy' => by rw [hy] at hy'; cases hy'; rfl⟩
    have : ((cs.drop i).take 1)[0]? = some (Value.int .i64 z) := by rw [e1]; rfl
    simpa [List.getElem?_take, List.getElem?_drop] using this
  refine ⟨fun v hv => ?_, hl.trans hC, ?_⟩
  · obtain ⟨i, hi⟩ := List.getElem?_of_mem hv
    have hin : i < n := by
      have := (List.getElem?_eq_some_iff.1 hi).1
      omega
    obtain ⟨z, h1, h2, _⟩ := hone i hin
    rw [hi] at h1
    cases h1
    exact ⟨z, rfl, h2⟩
  · exact flat_nil fun i y hy => by
      have hin : i < n := by
        have := (List.getElem?_eq_some_iff.1 hy).1
        omega
      obtain ⟨_, _, _, h3⟩ := hone i hin
      exact h3 y hy
/-- an array of arrays of numbers -/
theorem trod_rows {fuel n k : Nat} {t e f : TypeId} {cs : List Value} {x : DataW H × List MemPlace} (ht : P.underlying t = some (.array n e)) (he : P.underlying e = some (.array k f)) (hf0 : P.underlying f = some (.int .i64)) (hc : P.cellsOf f = 1)
    (hC : P.cellsOf e = k) (hT : P.cellsOf t = n * k) (hk : 0 < k) (h : DataW.trod enc P w base spare held fuel t cs = some x) : (∀ v ∈ cs, ∃ z, v = .int .i64 z ∧ (Lit.int .i64 z).wf = true) ∧ cs.length = n * k ∧ x.2 = [] := by
  obtain ⟨xs, m, _, rfl, hl, hlen, hf⟩ := DataW.trod_array ht h
  have hone : ∀ i, i < n → (∀ v ∈ (cs.drop (i * k)).take k, ∃ z, v = .int .i64 z ∧ (Lit.int .i64 z).wf = true) ∧ ∀ y, xs[i]? = some y → y.2 = [] := by
    intro i hi
    have h1 := hf i hi
    rw [hC] at h1
    obtain ⟨y, hy⟩ : ∃ y, xs[i]? = some y := ⟨xs[i]'(by omega), by simp [show i < xs.length by omega]⟩
    rw [hy] at h1
    obtain ⟨a, _, c⟩ := trod_ints he hf0 hc hC h1
    exact ⟨a, fun y' hy' => by rw [hy] at hy'; cases hy'; exact c⟩
  refine ⟨fun v hv => ?_, hl.trans hT, ?_⟩
  · obtain ⟨j, hj⟩ := List.getElem?_of_mem hv
    have hjn : j < n * k := by
      have := (List.getElem?_eq_some_iff.1 hj).1
      omega
    have hin : j / k < n := Nat.div_lt_of_lt_mul (by rw [Nat.mul_comm]; exact hjn)
    refine (hone (j / k) hin).1 v ?_
    have hr : j % k < k := Nat.mod_lt _ hk
    have hjj : j / k * k + j % k = j := Nat.div_add_mod' j k
    refine List.mem_of_getElem? (i := j % k) ?_
    rw [List.getElem?_take, if_pos hr, List.getElem?_drop, hjj]
    exact hj
  · exact flat_nil fun i y hy => by
      have hin : i < n := by
        have := (List.getElem?_eq_some_iff.1 hy).1
        omega
      exact (hone i hin).2 y hy
theorem wf_bounds {z : Int} (h : (Lit.int .i64 z).wf = true) : -9223372036854775808 ≤ z ∧ z ≤ 9223372036854775807 := by
  simp [Lit.wf, IntKind.min, IntKind.max, IntKind.signed, IntKind.bits] at h
  omega
theorem wf_all {m : List Int} (h : ∀ z ∈ m, (Lit.int .i64 z).wf = true) : ∀ j, -9223372036854775808 ≤ m.getD j 0 ∧ m.getD j 0 ≤ 9223372036854775807 := by
  intro j
  rw [List.getD_eq_getElem?_getD]
  by_cases hj : j < m.length
  · rw [List.getElem?_eq_getElem hj]
    exact wf_bounds (h _ (List.getElem_mem hj))
  · rw [List.getElem?_eq_none (by omega)]
    simp
theorem open_vec {r : Reach} {b0 n : Nat} {t e : TypeId} {v : Value} {d : DataW H} {ps : List MemPlace} (ht : P.underlying t = some (.array n e)) (he : P.underlying e = some (.int .i64)) (hc : P.cellsOf e = 1) (hC : P.cellsOf t = n)
    (hv : Value.okWide P w r b0 t v) (h : DataW.Trod enc P w base spare held t v d ps) : ∃ m : List Int, v = .agg (mC m) ∧ m.length = n ∧ (∀ j, -9223372036854775808 ≤ m.getD j 0 ∧ m.getD j 0 ≤ 9223372036854775807) ∧ ps = [] := by
  obtain ⟨cs, rfl⟩ := okWide_array ht hv
  obtain ⟨fuel, hf⟩ := h
  obtain ⟨h1, h2, h3⟩ := trod_ints ht he hc hC hf
  obtain ⟨m, hm, hw⟩ := ints_of _ h1
  have hcs : cs.toList = m.map encI := by simpa [Value.cells] using hm
  refine ⟨m, ?_, ?_, wf_all hw, h3⟩
  · unfold mC
    rw [← hcs]
  · have := congrArg List.length hm
    rw [h2, List.length_map] at this
    exact this.symm
theorem open_mat {r : Reach} {b0 n k : Nat} {t e f : TypeId} {v : Value} {d : DataW H} {ps : List MemPlace} (ht : P.underlying t = some (.array n e)) (he : P.underlying e = some (.array k f)) (hf0 : P.underlying f = some (.int .i64)) (hc : P.cellsOf f = 1)
    (hC : P.cellsOf e = k) (hT : P.cellsOf t = n * k) (hk : 0 < k) (hv : Value.okWide P w r b0 t v) (h : DataW.Trod enc P w base spare held t v d ps) :
    ∃ m : List Int, v = .agg (mC m) ∧ m.length = n * k ∧ (∀ j, -9223372036854775808 ≤ m.getD j 0 ∧ m.getD j 0 ≤ 9223372036854775807) ∧ ps = [] := by
  obtain ⟨cs, rfl⟩ := okWide_array ht hv
  obtain ⟨fuel, hf⟩ := h
  obtain ⟨h1, h2, h3⟩ := trod_rows ht he hf0 hc hC hT hk hf
  obtain ⟨m, hm, hw⟩ := ints_of _ h1
  have hcs : cs.toList = m.map encI := by simpa [Value.cells] using hm
  refine ⟨m, ?_, ?_, wf_all hw, h3⟩
  · unfold mC
    rw [← hcs]
  · have := congrArg List.length hm
    rw [h2, List.length_map] at this
    exact this.symm
theorem laidOut : laidOutB Try.prog = true := by kernel_rfl
end Go.Proofs.Ytgkglkoipocgaaa.Fx
