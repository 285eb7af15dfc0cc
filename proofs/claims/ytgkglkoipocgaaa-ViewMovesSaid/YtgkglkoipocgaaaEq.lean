/- Vectors and matrices held against one another. -/
import Derived.Test.YtgkglkoipocgaaaProg
import Derived.Test.YtgkglkoipocgaaaMu
import Derived.Laws.StructEq
set_option linter.unusedVariables false
set_option linter.unusedSimpArgs false
namespace Go.Proofs.Ytgkglkoipocgaaa.Fx
open Go Go.RowKit Go.Shelf Wm
theorem all_range_int : ∀ (xs ys : List Int), xs.length = ys.length → ((List.range xs.length).all fun i => xs.getD i 0 == ys.getD i 0) = (xs == ys)
  | [], [], _ => rfl
  | x :: xs, y :: ys, h => by
    have ih := all_range_int xs ys (by simpa using h)
    rw [List.length_cons, List.range_succ_eq_map, List.all_cons, List.all_map]
    simp only [List.getD_cons_zero, Function.comp_def, List.getD_cons_succ, ih]
    simp [List.cons_beq_cons]
  | [], _ :: _, h => by simp at h
  | _ :: _, [], h => by simp at h
set_option maxRecDepth 100000 in
theorem eqIn_vec (w : World) (d : Nat) (xs ys : List Int) (hx : xs.length = 4) (hy : ys.length = 4) :
    (Op.equalIn (d + 2) 23 (.agg (mC xs)) (.agg (mC ys))).run Try.prog w = .ok (xs == ys) w := by
  have ht := Try.underlying23
  have he := Try.underlying2
  have hsz := Try.sizeOf2
  rw [← all_range_int xs ys (hx.trans hy.symm), hx, List.range_eq_range', Op.equalIn]
  simp only [Sem.run_bind, run_underlying ht, Result.andThen_ok, hsz, Std.Legacy.Range.forIn_eq_forIn_range', Std.Legacy.Range.size, Nat.sub_zero, Nat.add_sub_cancel, Nat.div_one]
  have hl : ∀ i ∈ List.range' 0 4 1, i < 4 := fun i hi => by simpa using (List.mem_range'_1.1 hi).2
  generalize List.range' 0 4 1 = l at hl ⊢
  induction l with
  | nil => simp
  | cons i l ih =>
    have hi : i < 4 := hl i (by simp)
    have px : (part 2 (mC xs) (i * 1)).run Try.prog w = .ok (encI (xs.getD i 0)) w := by
      simp [part, mC, isAgg, run_underlying he, List.getD, List.getElem?_eq_getElem (show i < xs.length by omega)]
    have py : (part 2 (mC ys) (i * 1)).run Try.prog w = .ok (encI (ys.getD i 0)) w := by
      simp [part, mC, isAgg, run_underlying he, List.getD, List.getElem?_eq_getElem (show i < ys.length by omega)]
    have pe : (Op.equalIn (d + 1) 2 (encI (xs.getD i 0)) (encI (ys.getD i 0))).run Try.prog w = .ok (xs.getD i 0 == ys.getD i 0) w := by
      rw [encI, encI, run_equalIn_int w d 2 .i64 .i64 _ _ he]
    simp only [List.forIn_cons, Sem.run_bind, px, py, pe, Result.andThen_ok, List.all_cons]
    cases hb : (xs.getD i 0 == ys.getD i 0)
    · simp
    · simp only [Bool.not_true, Bool.false_eq_true, if_false, Sem.run_pure, Result.andThen_ok, Bool.true_and]
      exact ih fun j hj => hl j (by simp [hj])
theorem eql_vec (w : World) (xs ys : List Int) (hx : xs.length = 4) (hy : ys.length = 4) :
    (binOp .eql 23 (.agg (mC xs)) (.agg (mC ys))).run Try.prog w = .ok (.bool (xs == ys)) w := by
  rw [run_eql_struct, eqIn_vec w 9998 xs ys hx hy]
  rfl
theorem rows_eq {xs ys : List Int} (hx : xs.length = 16) (hy : ys.length = 16) : ((List.range 4).all fun i => rowOf xs i == rowOf ys i) = (xs == ys) := by
  rw [Bool.eq_iff_iff, List.all_eq_true, beq_iff_eq]
  constructor
  · intro h
    have h0 : rowOf xs 0 = rowOf ys 0 := by simpa using h 0 (by decide)
    have h1 : rowOf xs 1 = rowOf ys 1 := by simpa using h 1 (by decide)
    have h2 : rowOf xs 2 = rowOf ys 2 := by simpa using h 2 (by decide)
    have h3 : rowOf xs 3 = rowOf ys 3 := by simpa using h 3 (by decide)
    simp only [rowOf, Nat.zero_mul, Nat.reduceMul, Nat.zero_add, Nat.reduceAdd, List.cons.injEq, and_true] at h0 h1 h2 h3
    rw [list16 hx, list16 hy, h0.1, h0.2.1, h0.2.2.1, h0.2.2.2, h1.1, h1.2.1, h1.2.2.1, h1.2.2.2, h2.1, h2.2.1, h2.2.2.1, h2.2.2.2, h3.1, h3.2.1, h3.2.2.1, h3.2.2.2]
  · rintro rfl i _
    simp
set_option maxRecDepth 100000 in
theorem eqIn_mat (w : World) (d : Nat) (xs ys : List Int) (hx : xs.length = 16) (hy : ys.length = 16) :
    (Op.equalIn (d + 3) 44 (.agg (mC xs)) (.agg (mC ys))).run Try.prog w = .ok (xs == ys) w := by
  have ht := Try.underlying44
  have he := Try.underlying23
  have hsz := Try.sizeOf23
  rw [← rows_eq hx hy, List.range_eq_range', Op.equalIn]
  simp only [Sem.run_bind, run_underlying ht, Result.andThen_ok, hsz, Std.Legacy.Range.forIn_eq_forIn_range', Std.Legacy.Range.size, Nat.sub_zero, Nat.add_sub_cancel, Nat.div_one]
  have hl : ∀ i ∈ List.range' 0 4 1, i < 4 := fun i hi => by simpa using (List.mem_range'_1.1 hi).2
  generalize List.range' 0 4 1 = l at hl ⊢
  induction l with
  | nil => simp
  | cons i l ih =>
    have hi : i < 4 := hl i (by simp)
    have px : ∀ zs : List Int, zs.length = 16 → (part 23 (mC zs) (i * 4)).run Try.prog w = .ok (.agg (mC (rowOf zs i))) w := by
      intro zs hz
      simp [part, isAgg, run_underlying he, hsz]
      rw [list16 hz]
      have hd : i = 0 ∨ i = 1 ∨ i = 2 ∨ i = 3 := by omega
      rcases hd with rfl | rfl | rfl | rfl <;> rfl
    have pe := eqIn_vec w d (rowOf xs i) (rowOf ys i) rfl rfl
    simp only [List.forIn_cons, Sem.run_bind, px xs hx, px ys hy, pe, Result.andThen_ok, List.all_cons]
    cases hb : (rowOf xs i == rowOf ys i)
    · simp
    · simp only [Bool.not_true, Bool.false_eq_true, if_false, Sem.run_pure, Result.andThen_ok, Bool.true_and]
      exact ih fun j hj => hl j (by simp [hj])
theorem eql_mat (w : World) (xs ys : List Int) (hx : xs.length = 16) (hy : ys.length = 16) :
    (binOp .eql 44 (.agg (mC xs)) (.agg (mC ys))).run Try.prog w = .ok (.bool (xs == ys)) w := by
  rw [run_eql_struct, eqIn_mat w 9997 xs ys hx hy]
  rfl
end Go.Proofs.Ytgkglkoipocgaaa.Fx
