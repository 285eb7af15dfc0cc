/- MatrixNeutral, walked. -/
import Derived.Test.YtgkcbadfjhicnaaProg
import Derived.Test.YtgkcbadfjhicnaaNe
import Derived.Test.YtgkcbadfjhicnaaNa
import Derived.Test.YtgkcbadfjhicnaaLd
import Derived.Test.YtgkcbadfjhicnaaBb
import Derived.Test.YtgkcbadfjhicnaaR4
set_option linter.unusedVariables false
set_option linter.unusedSimpArgs false
namespace Go.Proofs.Ytgkcbadfjhicnaa.Fx
open Go Go.RowKit Go.Shelf Wm
theorem wpIn_store_row {F : Fence} {n : Nat} {P : Program} {o : Oper} {a : Act} {w : World} {K : Act → World → Prop} {Q : Exit → Act → World → Prop} (hF : ∀ f, F.fn f) (ty : TypeId) (x y : Operand) (ho : o.op = .store ty x y)
    (g : Nat) (t : TypeId) (c c' : Array Value) (hx : a.eval x = .pointer (some ⟨g, 0, none⟩)) (hy : a.eval y = .agg c') (hg : w.heap[g]? = some (.cells c t (0, 0)))
    (hi : (P.info? ty).map (·.size) = some c'.size) (hs : c.size = c'.size) (h1 : c'.all (·.oneCell') = true) (h : K (a.put o.dst undef) (w.setRow g c')) : Oper.wpIn F n P o a w K Q := by
  unfold Oper.wpIn
  rw [Oper.semAt_plain F _ _ (by intro c e; rw [ho] at e; cases e)]
  unfold execOp
  simp only [ho, hx, hy, Instr.storeAt, Instr.sureAddr, Sem.run_bind, Sem.run_pure, Result.andThen_ok, run_storeVar_row w g t ty c c' hg hi hs h1, Oper.uponIn]
  exact ⟨fun f _ => hF f, h⟩
theorem neq_mat (w : World) (xs : List Int) (hx : xs.length = 16) : (binOp .neq 64 (.agg (mC xs)) (.agg (mC xs))).run Try.prog w = .ok (.bool false) w := by
  have h := eqIn_mat w 9997 xs xs hx hx
  rw [beq_self_eq_true] at h
  have h2 : (Op.equal 64 (.agg (mC xs)) (.agg (mC xs))).run Try.prog w = .ok true w := h
  show ((do pure (.bool (!(← Op.equal 64 _ _)))) : Sem Value).run Try.prog w = _
  simp only [Sem.run_bind, h2, Result.andThen_ok, Sem.run_pure, Bool.not_true]
theorem eq_mat (w : World) (xs : List Int) (hx : xs.length = 16) : (binOp .eql 64 (.agg (mC xs)) (.agg (mC xs))).run Try.prog w = .ok (.bool true) w := by
  have h := eql_mat w xs xs hx hx
  rwa [beq_self_eq_true] at h
theorem eq_vec (w : World) (v0 v1 v2 v3 : Int) : (binOp .eql 62 (.agg #[.int .i64 v0, .int .i64 v1, .int .i64 v2, .int .i64 v3]) (.agg #[.int .i64 v0, .int .i64 v1, .int .i64 v2, .int .i64 v3])).run Try.prog w = .ok (.bool true) w := by
  have h := eql_vec w [v0, v1, v2, v3] [v0, v1, v2, v3] rfl rfl
  rw [beq_self_eq_true] at h
  exact h
end Go.Proofs.Ytgkcbadfjhicnaa.Fx
