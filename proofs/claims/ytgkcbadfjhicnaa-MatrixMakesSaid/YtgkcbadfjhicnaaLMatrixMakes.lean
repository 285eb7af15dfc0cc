/- What moves, scales, turns, and is exchanged, is the document's; any numbers. -/
import Derived.Test.YtgkcbadfjhicnaaRows
import Derived.Test.YtgkcbadfjhicnaaQ7
import Derived.WalkKit
import Derived.ProofKit
import Derived.OpenShut
import Derived.ChangeMaps5
import Derived.Lib.SmallJoins
import Derived.Test.YtgkcbadfjhicnaaProg
import Derived.Test.YtgkcbadfjhicnaaAc
import Derived.Carry
set_option linter.unusedVariables false
namespace Go.Proofs.Ytgkcbadfjhicnaa.Fx
open Go Go.RowKit Go.ChangeShapes Go.WideShapes
variable {H : Type} {enc : TypeId × Value → H} {P : Program} {w : World} {base : Nat} {spare : Nat → Bool} {held : Bool}
theorem okWide_array {r : Reach} {b0 n : Nat} {t e : TypeId} {v : Value} (ht : P.underlying t = some (.array n e)) (h : Value.okWide P w r b0 t v) : ∃ cs : Array Value, v = .agg cs := by
  unfold Value.okWide at h
  simp only [ht] at h
  obtain ⟨cs, rfl, _⟩ := h
  exact ⟨cs, rfl⟩
theorem ints_of : ∀ (cs : List Value), (∀ v ∈ cs, ∃ z, v = .int .i64 z ∧ (Lit.int .i64 z).wf = true) → ∃ m : List Int, cs = m.map encI ∧ ∀ z ∈ m, (Lit.int .i64 z).wf = true
  | [], _ => ⟨[], rfl, by simp⟩
  | v :: cs, h => by
    obtain ⟨z, rfl, hz⟩ := h v (by simp)
    obtain ⟨m, rfl, hm⟩ := ints_of cs fun u hu => h u (by simp [hu])
    refine ⟨z :: m, rfl, fun x hx => ?_⟩
    rcases List.mem_cons.1 hx with rfl | hx
    · exact hz
    · exact hm x hx
theorem flat_nil {xs : List (DataW H × List MemPlace)} (h : ∀ (i : Nat) (y : DataW H × List MemPlace), xs[i]? = some y → y.2 = []) : xs.flatMap (·.2) = [] := by
  rw [List.flatMap_eq_nil_iff]
  intro y hy
  obtain ⟨i, hi⟩ := List.getElem?_of_mem hy
  exact h i y hi
/-- an array of numbers -/
theorem trod_ints {fuel n : Nat} {t e : TypeId} {cs : List Value} {x : DataW H × List MemPlace} (ht : P.underlying t = some (.array n e)) (he : P.underlying e = some (.int .i64)) (hc : P.cellsOf e = 1) (hC : P.cellsOf t = n)
    (h : DataW.trod enc P w base spare held fuel t cs = some x) : (∀ v ∈ cs, ∃ z, v = .int .i64 z ∧ (Lit.int .i64 z).wf = true) ∧ cs.length = n ∧ x.2 = [] := by
  obtain ⟨xs, m, _, rfl, hl, hlen, hf⟩ := DataW.trod_array ht h
  have hone : ∀ i, i < n → ∃ z, cs[i]? = some (.int .i64 z) ∧ (Lit.int .i64 z).wf = true ∧ ∀ y, xs[i]? = some y → y.2 = [] := by
    intro i hi
    have h1 := hf i hi
    rw [hc, Nat.mul_one] at h1
    obtain ⟨y, hy⟩ : ∃ y, xs[i]? = some y := ⟨xs[i]'(by omega), by simp [show i < xs.length by omega]⟩
    rw [hy] at h1
    obtain ⟨z, e1, rfl, hz⟩ := DataW.trod_int he h1
    refine ⟨z, ?_, hz, fun y' hy' => by rw [hy] at hy'; cases hy'; rfl⟩
    have : ((cs.drop i).take 1)[0]? = some (Value.int .i64 z) := by rw [e1]; rfl
    simpa [List.getElem?_take, List.getElem?_drop] using this
  refine ⟨fun v hv => ?_, hl.trans hC, ?_⟩
  · obtain ⟨i, hi⟩ := List.getElem?_of_mem hv
    have hin : i < n := by
      have := (List.getElem?_eq_some_iff.1 hi).1
      omega
    obtain ⟨z, h1, h2, _⟩ := hone i hin
    rw [hi] at h1
    cases h1
    exact ⟨z, rfl, h2⟩
  · exact flat_nil fun i y hy => by
      have hin : i < n := by
        have := (List.getElem?_eq_some_iff.1 hy).1
        omega
      obtain ⟨_, _, _, h3⟩ := hone i hin
      exact h3 y hy
/-- an array of arrays of numbers -/
theorem trod_rows {fuel n k : Nat} {t e f : TypeId} {cs : List Value} {x : DataW H × List MemPlace} (ht : P.underlying t = some (.array n e)) (he : P.underlying e = some (.array k f)) (hf0 : P.underlying f = some (.int .i64)) (hc : P.cellsOf f = 1)
    (hC : P.cellsOf e = k) (hT : P.cellsOf t = n * k) (hk : 0 < k) (h : DataW.trod enc P w base spare held fuel t cs = some x) : (∀ v ∈ cs, ∃ z, v = .int .i64 z ∧ (Lit.int .i64 z).wf = true) ∧ cs.length = n * k ∧ x.2 = [] := by
  obtain ⟨xs, m, _, rfl, hl, hlen, hf⟩ := DataW.trod_array ht h
  have hone : ∀ i, i < n → (∀ v ∈ (cs.drop (i * k)).take k, ∃ z, v = .int .i64 z ∧ (Lit.int .i64 z).wf = true) ∧ ∀ y, xs[i]? = some y → y.2 = [] := by
    intro i hi
    have h1 := hf i hi
    rw [hC] at h1
    obtain ⟨y, hy⟩ : ∃ y, xs[i]? = some y := ⟨xs[i]'(by omega), by simp [show i < xs.length by omega]⟩
    rw [hy] at h1
    obtain ⟨a, _, c⟩ := trod_ints he hf0 hc hC h1
    exact ⟨a, fun y' hy' => by rw [hy] at hy'; cases hy'; exact c⟩
  refine ⟨fun v hv => ?_, hl.trans hT, ?_⟩
  · obtain ⟨j, hj⟩ := List.getElem?_of_mem hv
    have hjn : j < n * k := by
      have := (List.getElem?_eq_some_iff.1 hj).1
      omega
    have hin : j / k < n := Nat.div_lt_of_lt_mul (by rw [Nat.mul_comm]; exact hjn)
    refine (hone (j / k) hin).1 v ?_
    have hr : j % k < k := Nat.mod_lt _ hk
    have hjj : j / k * k + j % k = j := Nat.div_add_mod' j k
    refine List.mem_of_getElem? (i := j % k) ?_
    rw [List.getElem?_take, if_pos hr, List.getElem?_drop, hjj]
    exact hj
  · exact flat_nil fun i y hy => by
      have hin : i < n := by
        have := (List.getElem?_eq_some_iff.1 hy).1
        omega
      exact (hone i hin).2 y hy
theorem wf_bounds {z : Int} (h : (Lit.int .i64 z).wf = true) : -9223372036854775808 ≤ z ∧ z ≤ 9223372036854775807 := by
  simp [Lit.wf, IntKind.min, IntKind.max, IntKind.signed, IntKind.bits] at h
  omega
theorem wf_all {m : List Int} (h : ∀ z ∈ m, (Lit.int .i64 z).wf = true) : ∀ j, -9223372036854775808 ≤ m.getD j 0 ∧ m.getD j 0 ≤ 9223372036854775807 := by
  intro j
  rw [List.getD_eq_getElem?_getD]
  by_cases hj : j < m.length
  · rw [List.getElem?_eq_getElem hj]
    exact wf_bounds (h _ (List.getElem_mem hj))
  · rw [List.getElem?_eq_none (by omega)]
    simp
theorem open_vec {r : Reach} {b0 n : Nat} {t e : TypeId} {v : Value} {d : DataW H} {ps : List MemPlace} (ht : P.underlying t = some (.array n e)) (he : P.underlying e = some (.int .i64)) (hc : P.cellsOf e = 1) (hC : P.cellsOf t = n)
    (hv : Value.okWide P w r b0 t v) (h : DataW.Trod enc P w base spare held t v d ps) : ∃ m : List Int, v = .agg (mC m) ∧ m.length = n ∧ (∀ j, -9223372036854775808 ≤ m.getD j 0 ∧ m.getD j 0 ≤ 9223372036854775807) ∧ ps = [] := by
  obtain ⟨cs, rfl⟩ := okWide_array ht hv
  obtain ⟨fuel, hf⟩ := h
  obtain ⟨h1, h2, h3⟩ := trod_ints ht he hc hC hf
  obtain ⟨m, hm, hw⟩ := ints_of _ h1
  have hcs : cs.toList = m.map encI := by simpa [Value.cells] using hm
  refine ⟨m, ?_, ?_, wf_all hw, h3⟩
  · unfold mC
    rw [← hcs]
  · have := congrArg List.length hm
    rw [h2, List.length_map] at this
    exact this.symm
theorem open_mat {r : Reach} {b0 n k : Nat} {t e f : TypeId} {v : Value} {d : DataW H} {ps : List MemPlace} (ht : P.underlying t = some (.array n e)) (he : P.underlying e = some (.array k f)) (hf0 : P.underlying f = some (.int .i64)) (hc : P.cellsOf f = 1)
    (hC : P.cellsOf e = k) (hT : P.cellsOf t = n * k) (hk : 0 < k) (hv : Value.okWide P w r b0 t v) (h : DataW.Trod enc P w base spare held t v d ps) :
    ∃ m : List Int, v = .agg (mC m) ∧ m.length = n * k ∧ (∀ j, -9223372036854775808 ≤ m.getD j 0 ∧ m.getD j 0 ≤ 9223372036854775807) ∧ ps = [] := by
  obtain ⟨cs, rfl⟩ := okWide_array ht hv
  obtain ⟨fuel, hf⟩ := h
  obtain ⟨h1, h2, h3⟩ := trod_rows ht he hf0 hc hC hT hk hf
  obtain ⟨m, hm, hw⟩ := ints_of _ h1
  have hcs : cs.toList = m.map encI := by simpa [Value.cells] using hm
  refine ⟨m, ?_, ?_, wf_all hw, h3⟩
  · unfold mC
    rw [← hcs]
  · have := congrArg List.length hm
    rw [h2, List.length_map] at this
    exact this.symm
theorem laidOut : laidOutB Try.prog = true := by kernel_rfl
end Go.Proofs.Ytgkcbadfjhicnaa.Fx
namespace Go.Proofs.Ytgkcbadfjhicnaa.matrixMakes
open Go.ChangeShapes Go.WideShapes Go.ChangeAt Go.RowKit Go.ChangeMaps
set_option linter.unusedVariables false
theorem own : ownKnob Try.prog.godebug = none := by kernel_rfl
theorem walk (a0 : List Int) (l0 : a0.length = 16) (w0 : ∀ j, -9223372036854775808 ≤ a0.getD j 0 ∧ a0.getD j 0 ≤ 9223372036854775807) (a1 : Int) (w1 : (Lit.int .i64 a1).wf = true) (a2 : Int) (w2 : (Lit.int .i64 a2).wf = true) (a3 : Int) (w3 : (Lit.int .i64 a3).wf = true) (a4 : Int) (w4 : (Lit.int .i64 a4).wf = true) (a5 : Int) (w5 : (Lit.int .i64 a5).wf = true) (w : World)  :
    Calls Try.prog 7 #[.agg (Fx.mC a0), .int .i64 a1, .int .i64 a2, .int .i64 a3, .int .i64 a4, .int .i64 a5] w fun e w' => e = .returned (.bool true) ∧ Below w.heap.size w w' := by
  exact Fx.law_matrixMakes a0 l0 a1 w1 a2 w2 a3 w3 a4 a5 w
set_option maxRecDepth 100000 in
theorem lifted (os : Os) (started : os.Started) (H : Type) (enc : TypeId × Value → H) :
    ReturnsInHanded {} Try.checked os 7 .any (Rows.matrixMakesSpec.pre6 enc Try.prog Try.f7 Rows.matrixMakesRow.domain false) (Rows.matrixMakesSpec.post enc Try.prog Try.f7 false true false false) := by
  refine returnsInHanded_of_change (C := Try.checked) own started (by kernel_rfl) Try.func7
    (ChangeSpec.witness6 (enc := enc) (C := Try.checked) false ⟨#[], #[.agg #[.int .i64 0, .int .i64 0, .int .i64 0, .int .i64 0, .int .i64 0, .int .i64 0, .int .i64 0, .int .i64 0, .int .i64 0, .int .i64 0, .int .i64 0, .int .i64 0, .int .i64 0, .int .i64 0, .int .i64 0, .int .i64 0], .int .i64 0, .int .i64 0, .int .i64 0, .int .i64 0, .int .i64 0], []⟩ 8 (by kernel_rfl) (by kernel_rfl) (by kernel_rfl) (by kernel_rfl)) ?_
  intro W base args ds gs before hval0 hW hcnd _
  have hval : ∀ (j : Nat) t v, Try.f7.params[j]? = some t → args[j]? = some v → Value.okWide Try.prog W .any base t v := hval0
  have hW' := hW
  obtain ⟨p, q, hA0, hV, rfl, hfz, hnd⟩ := hW
  have hA : DataW.TrodAll enc Try.prog W 0 (fun _ => true) true Try.f7.params.toList args.toList ds p := hA0
  rw [Try.params7] at hA hval
  obtain ⟨v0, vs0, d0, ds0, p0, q0, hargs, rfl, rfl, h0, r0⟩ := trodAll_cons hA
  obtain ⟨v1, vs1, d1, ds1, p1, q1, rfl, rfl, rfl, h1, r1⟩ := trodAll_cons r0
  obtain ⟨v2, vs2, d2, ds2, p2, q2, rfl, rfl, rfl, h2, r2⟩ := trodAll_cons r1
  obtain ⟨v3, vs3, d3, ds3, p3, q3, rfl, rfl, rfl, h3, r3⟩ := trodAll_cons r2
  obtain ⟨v4, vs4, d4, ds4, p4, q4, rfl, rfl, rfl, h4, r4⟩ := trodAll_cons r3
  obtain ⟨v5, vs5, d5, ds5, p5, q5, rfl, rfl, rfl, h5, r5⟩ := trodAll_cons r4
  obtain ⟨rfl, rfl, rfl⟩ := trodAll_nil r5
  obtain rfl : args = #[v0, v1, v2, v3, v4, v5] := by cases args; simp_all
  obtain ⟨rfl, rfl⟩ := trodVars_none hV
  have k0 := h0
  obtain ⟨a0, rfl, l0, w0, rfl⟩ := Fx.open_mat Try.underlying64 Try.underlying62 Try.underlying2 (by kernel_rfl) (by kernel_rfl) (by kernel_rfl) (by omega) (hval 0 64 v0 rfl rfl) h0
  obtain ⟨a1, rfl, rfl, rfl, w1⟩ := open_int Try.underlying2 (hval 1 2 v1 rfl rfl) h1
  obtain ⟨a2, rfl, rfl, rfl, w2⟩ := open_int Try.underlying2 (hval 2 2 v2 rfl rfl) h2
  obtain ⟨a3, rfl, rfl, rfl, w3⟩ := open_int Try.underlying2 (hval 3 2 v3 rfl rfl) h3
  obtain ⟨a4, rfl, rfl, rfl, w4⟩ := open_int Try.underlying3 (hval 4 3 v4 rfl rfl) h4
  obtain ⟨a5, rfl, rfl, rfl, w5⟩ := open_int Try.underlying3 (hval 5 3 v5 rfl rfl) h5
  clear hA0 hval0
  simp only [List.append_nil] at hW'
  refine (walk a0 l0 w0 a1 w1 a2 w2 a3 w3 a4 w4 a5 w5 W ).mono fun e W' ⟨he, bel⟩ => ?_
  subst he
  exact ⟨_, rfl, _, _, _, [], [], [], hW', trodAll_mk1 (shut_bool Try.underlying4 _), (trodAll_cons_mk (Below.trod Fx.laidOut (by kernel_rfl) (of_decide_eq_true (by kernel_rfl)) k0 bel (by simp)) (trodAll_cons_mk (shut_int Try.underlying2 w1) (trodAll_cons_mk (shut_int Try.underlying2 w2) (trodAll_cons_mk (shut_int Try.underlying2 w3) (trodAll_cons_mk (shut_int Try.underlying3 w4) (trodAll_cons_mk (shut_int Try.underlying3 w5) trodAll_mk0)))))), rfl, bel.frame _, fun h => by cases h⟩
theorem over : Rows.matrixMakesRow.holds Try.pinned (OpenSpec.ofChange Rows.matrixMakesSpec) :=
  OpenClaim.holds_of_wide 7 Try.f7 rfl rfl rfl rfl rfl rfl rfl ⟨rfl, rfl, rfl, rfl, rfl⟩ rfl rfl rfl rfl rfl (by kernel_rfl) Try.func7 (by kernel_rfl)
    (of_decide_eq_true (by kernel_rfl)) (by unfold Func.isWrapper; first | (rw [if_pos (by decide +kernel)]; kernel_rfl) | (rw [if_neg (by decide +kernel)]; exact ⟨rfl, rfl⟩))
    (fun os started H enc _ => lifted os started H enc)
theorem proved : Rows.MatrixMakesSaid :=
  over
#print axioms proved
end Go.Proofs.Ytgkcbadfjhicnaa.matrixMakes
