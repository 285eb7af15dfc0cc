/- The document's numbers of layer 2, plain: a sign, and twenty digits of 16 bits; none, walked. -/
import Derived.Test.YtgkglkoipocgaaaProg
import Derived.Test.YtgkglkoipocgaaaW0
import Derived.Laws.StructEq
import Derived.Deep.MidRow
import Derived.Laws.Rows
import Derived.Outline
set_option linter.unusedVariables false
set_option linter.unusedSimpArgs false
namespace Go.Proofs.Ytgkglkoipocgaaa.Fx
open Go Go.RowKit Wm
def encN (x : Nat) : Value := .int .u64 (x : Int)
/-- the cells of a number -/
def bigC (neg : Bool) (d : List Nat) : Array Value := (Value.bool neg :: d.map encN).toArray
theorem all_range_nat : ∀ (xs ys : List Nat), xs.length = ys.length → ((List.range xs.length).all fun i => xs.getD i 0 == ys.getD i 0) = (xs == ys)
  | [], [], _ => rfl
  | x :: xs, y :: ys, h => by
    have ih := all_range_nat xs ys (by simpa using h)
    rw [List.length_cons, List.range_succ_eq_map, List.all_cons, List.all_map]
    simp only [List.getD_cons_zero, Function.comp_def, List.getD_cons_succ, ih]
    simp [List.cons_beq_cons]
  | [], _ :: _, h => by simp at h
  | _ :: _, [], h => by simp at h
set_option maxRecDepth 100000 in
theorem eqIn_nats (w : World) (d : Nat) (xs ys : List Nat) (hx : xs.length = 20) (hy : ys.length = 20) :
    (Op.equalIn (d + 2) 77 (.agg (xs.map encN).toArray) (.agg (ys.map encN).toArray)).run Try.prog w = .ok (xs == ys) w := by
  have ht := Try.underlying77
  have he := Try.underlying76
  have hsz := Try.sizeOf76
  rw [← all_range_nat xs ys (hx.trans hy.symm), hx, List.range_eq_range', Op.equalIn]
  simp only [Sem.run_bind, run_underlying ht, Result.andThen_ok, hsz, Std.Legacy.Range.forIn_eq_forIn_range', Std.Legacy.Range.size, Nat.sub_zero, Nat.add_sub_cancel, Nat.div_one]
  have hl : ∀ i ∈ List.range' 0 20 1, i < 20 := fun i hi => by simpa using (List.mem_range'_1.1 hi).2
  generalize List.range' 0 20 1 = l at hl ⊢
  induction l with
  | nil => simp
  | cons i l ih =>
    have hi : i < 20 := hl i (by simp)
    have px : (part 76 (xs.map encN).toArray (i * 1)).run Try.prog w = .ok (encN (xs.getD i 0)) w := by
      simp [part, isAgg, run_underlying he, List.getD, List.getElem?_eq_getElem (show i < xs.length by omega)]
    have py : (part 76 (ys.map encN).toArray (i * 1)).run Try.prog w = .ok (encN (ys.getD i 0)) w := by
      simp [part, isAgg, run_underlying he, List.getD, List.getElem?_eq_getElem (show i < ys.length by omega)]
    have pe : (Op.equalIn (d + 1) 76 (encN (xs.getD i 0)) (encN (ys.getD i 0))).run Try.prog w = .ok (xs.getD i 0 == ys.getD i 0) w := by
      rw [encN, encN, run_equalIn_int w d 76 .u64 .u64 _ _ he]
      congr 1
      rw [Bool.eq_iff_iff, beq_iff_eq, beq_iff_eq]
      omega
    simp only [List.forIn_cons, Sem.run_bind, px, py, pe, Result.andThen_ok, List.all_cons]
    cases hb : (xs.getD i 0 == ys.getD i 0)
    · simp
    · simp only [Bool.not_true, Bool.false_eq_true, if_false, Sem.run_pure, Result.andThen_ok, Bool.true_and]
      exact ih fun j hj => hl j (by simp [hj])
theorem eql_nats (w : World) (xs ys : List Nat) (hx : xs.length = 20) (hy : ys.length = 20) :
    (binOp .eql 77 (.agg (xs.map encN).toArray) (.agg (ys.map encN).toArray)).run Try.prog w = .ok (.bool (xs == ys)) w := by
  rw [run_eql_struct, eqIn_nats w 9998 xs ys hx hy]
  rfl
def zeros : List Nat := List.replicate 20 0
theorem size20 : (Try.prog.info? 77).map (·.size) = some 20 := by kernel_rfl
theorem range_of {w : World} {b : Nat} {neg : Bool} {d : List Nat} {t : TypeId} (hb : w.heap[b]? = some (.cells (bigC neg d) t (0, 0))) : w.rangeAt b 1 (d.map encN) := by
  intro j v hv
  rw [cell_of_row w b (1 + j) _ _ _ hb]
  unfold bigC
  rw [List.getElem?_toArray, Nat.add_comm, List.getElem?_cons_succ]
  exact hv
theorem size21 : (Try.prog.info? 79).map (·.size) = some 21 := by kernel_rfl
theorem big_size (neg : Bool) (d : List Nat) : (bigC neg d).size = d.length + 1 := by simp [bigC]
theorem big_one (neg : Bool) (d : List Nat) : (bigC neg d).all (·.oneCell') = true := by
  rw [Array.all_eq_true_iff_forall_mem]
  intro v hv
  simp only [bigC, List.mem_toArray, List.mem_cons, List.mem_map] at hv
  rcases hv with rfl | ⟨x, _, rfl⟩ <;> rfl
theorem wpList_store_big {P : Program} {ops : Array Oper} {rest : List Oper} {op : Oper} {a : Act} {w : World} {Q : Exit → Act → World → Prop} (hgd : op.guard = none) (ty : TypeId) (x y : Operand) (ho : op.op = .store ty x y)
    (g : Nat) (t : TypeId) (c c' : Array Value) (hx : a.eval x = .pointer (some ⟨g, 0, none⟩)) (hy : a.eval y = .agg c') (hg : w.heap[g]? = some (.cells c t (0, 0)))
    (hi : (P.info? ty).map (·.size) = some c'.size) (hs : c.size = c'.size) (h1 : c'.all (·.oneCell') = true)
    (h : wpList P ops Q rest (a.put op.dst undef) (w.setRow g c')) : wpList P ops Q (op :: rest) a w := by
  refine wpList_plain hgd fun K hK => ?_
  unfold Oper.wp execOp
  simp only [ho, hx, hy, Instr.storeAt, Instr.sureAddr, Sem.run_bind, Sem.run_pure, Result.andThen_ok, run_storeVar_row w g t ty c c' hg hi hs h1]
  exact hK _ _ h
theorem Below.row {B : Nat} {a w : World} (h : Below B a w) {g : Nat} (hg : B ≤ g) (c : Array Value) : Below B a (w.setRow g c) :=
  ⟨h.os, h.tape, h.output, by simpa using h.size, fun k hk => (setRow_other w g k c (by omega)).trans (h.block k hk)⟩
theorem none_any (neg : Bool) (d : List Nat) (w : World) (hd : d.length = 20) :
    Calls Try.prog 54 #[.agg (bigC neg d)] w fun e w' => e = .returned (.bool (d == zeros)) ∧ Below w.heap.size w w' := by
  have hq : ∀ w, (binOp .eql 77 (.agg (d.map encN).toArray) (.agg #[.int .u64 0, .int .u64 0, .int .u64 0, .int .u64 0, .int .u64 0, .int .u64 0, .int .u64 0, .int .u64 0, .int .u64 0, .int .u64 0, .int .u64 0, .int .u64 0, .int .u64 0, .int .u64 0, .int .u64 0, .int .u64 0, .int .u64 0, .int .u64 0, .int .u64 0, .int .u64 0])).run Try.prog w = .ok (.bool (d == zeros)) w := fun w => eql_nats w d zeros hd rfl
  have hI : (Try.prog.info? 77).map (·.size) = some (d.map encN).length := by rw [size20, List.length_map, hd]
  have hR : (w.alloc (.cells (bigC neg d) 79)).rangeAt w.heap.size 1 (d.map encN) := range_of (heap_alloc_new w _)
  clear hd
  go_enter Try.func54, Try.ntmps54
  go_wp2_with (refine wpList_load_mid rfl 77 (.tmp 3) rfl w.heap.size 1 rfl (d.map encN) _ hR Try.underlying77 rfl hI ?_)
  go_ret
  exact ⟨rfl, by go_grown⟩
end Go.Proofs.Ytgkglkoipocgaaa.Fx
