/- Matrices, vertices and triangles held against one another. -/
import Derived.Test.YtgkglkoipocgaaaProg
import Derived.Test.YtgkglkoipocgaaaEq
import Derived.Test.YtgkglkoipocgaaaSa
import Derived.Laws.StructEq
set_option linter.unusedVariables false
set_option linter.unusedSimpArgs false
namespace Go.Proofs.Ytgkglkoipocgaaa.Fx
open Go Go.RowKit Go.Shelf Wm
theorem neq_mat2 (w : World) (xs ys : List Int) (hx : xs.length = 16) (hy : ys.length = 16) :
    (binOp .neq 44 (.agg (xs.map encI).toArray) (.agg (ys.map encI).toArray)).run Try.prog w = .ok (.bool (!(xs == ys))) w := by
  have h := eqIn_mat w 9997 xs ys hx hy
  unfold mC at h
  rw [run_neq_struct, h]
  rfl
set_option maxRecDepth 100000 in
theorem eqIn_v3 (w : World) (d : Nat) (xs ys : List Int) (hx : xs.length = 3) (hy : ys.length = 3) :
    (Op.equalIn (d + 2) 50 (.agg (mC xs)) (.agg (mC ys))).run Try.prog w = .ok (xs == ys) w := by
  have ht := Try.underlying50
  have he := Try.underlying2
  have hsz := Try.sizeOf2
  rw [← all_range_int xs ys (hx.trans hy.symm), hx, List.range_eq_range', Op.equalIn]
  simp only [Sem.run_bind, run_underlying ht, Result.andThen_ok, hsz, Std.Legacy.Range.forIn_eq_forIn_range', Std.Legacy.Range.size, Nat.sub_zero, Nat.add_sub_cancel, Nat.div_one]
  have hl : ∀ i ∈ List.range' 0 3 1, i < 3 := fun i hi => by simpa using (List.mem_range'_1.1 hi).2
  generalize List.range' 0 3 1 = l at hl ⊢
  induction l with
  | nil => simp
  | cons i l ih =>
    have hi : i < 3 := hl i (by simp)
    have px : (part 2 (mC xs) (i * 1)).run Try.prog w = .ok (encI (xs.getD i 0)) w := by
      simp [part, mC, isAgg, run_underlying he, List.getD, List.getElem?_eq_getElem (show i < xs.length by omega)]
    have py : (part 2 (mC ys) (i * 1)).run Try.prog w = .ok (encI (ys.getD i 0)) w := by
      simp [part, mC, isAgg, run_underlying he, List.getD, List.getElem?_eq_getElem (show i < ys.length by omega)]
    have pe : (Op.equalIn (d + 1) 2 (encI (xs.getD i 0)) (encI (ys.getD i 0))).run Try.prog w = .ok (xs.getD i 0 == ys.getD i 0) w := by
      rw [encI, encI, run_equalIn_int w d 2 .i64 .i64 _ _ he]
    simp only [List.forIn_cons, Sem.run_bind, px, py, pe, Result.andThen_ok, List.all_cons]
    cases hb : (xs.getD i 0 == ys.getD i 0)
    · simp
    · simp only [Bool.not_true, Bool.false_eq_true, if_false, Sem.run_pure, Result.andThen_ok, Bool.true_and]
      exact ih fun j hj => hl j (by simp [hj])
theorem neq_v3 (w : World) (xs ys : List Int) (hx : xs.length = 3) (hy : ys.length = 3) :
    (binOp .neq 50 (.agg (xs.map encI).toArray) (.agg (ys.map encI).toArray)).run Try.prog w = .ok (.bool (!(xs == ys))) w := by
  have h := eqIn_v3 w 9998 xs ys hx hy
  unfold mC at h
  rw [run_neq_struct, h]
  rfl
end Go.Proofs.Ytgkglkoipocgaaa.Fx
