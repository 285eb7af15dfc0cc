/- Both matrices of an object: the document's Both, walked; two lists of numbers. -/
import Derived.Test.YtildnadkfonlhaaProg
import Derived.Test.YtildnadkfonlhaaSd
set_option linter.unusedVariables false
set_option linter.unusedSimpArgs false
namespace Go.Proofs.Ytildnadkfonlhaa.Fx
open Go Go.RowKit
theorem exec_load_mid {P : Program} {o : Oper} {a : Act} {w : World} (ty : TypeId) (x : Operand) (ho : o.op = .load ty x)
    (b off : Nat) (hx : a.eval x = .pointer (some ⟨b, off, none⟩)) (cs : List Value) (d : TypeDesc) (hc : w.rangeAt b off cs)
    (hu : P.underlying ty = some d) (hd : d.isRow = true) (hi : (P.info? ty).map (·.size) = some cs.length) :
    (execOp a.eval o).run P w = .ok (.value (.agg cs.toArray)) w := by
  unfold execOp
  simp only [ho, hx, Instr.loadAt, Instr.sureAddr, Sem.run_bind, Sem.run_pure, Result.andThen_ok, run_loadVar_mid w b off ty cs d hc hu hd hi]
def bothO (s : ScR) (k : Int) : Option (List Int) := if 0 ≤ k ∧ k < (s.os.length : Int) then (s.os[k.toNat]?).bind fun x => mulO s.cam x.m else none
def RetBoth (o : Option (List Int)) (w : World) (e : Ending) (w' : World) : Prop := e = .returned (.tuple #[.agg (mC (o.getD zero16)), .int .i64 (if o.isSome then 0 else 60)]) ∧ Below w.heap.size w w'
structure BoI (s : ScR) (w V : World) : Prop where
  sc : ScAt w.heap.size s V
  rr : RowAt 29 (w.heap.size + 1) (mC zero16) V
  ob : ObjsAt V s.oo s.os
  bel : Below w.heap.size w V
theorem BoI.up {s : ScR} {w V X : World} (i : BoI s w V) (hb : Below V.heap.size V X) : BoI s w X := ⟨i.sc.below hb, i.rr.below hb, i.ob.below hb, bnext i.bel hb⟩
theorem BoI.new {s : ScR} {w : World} (h : ObjsAt w s.oo s.os) : BoI s w ((w.alloc (.cells (scC s) 32)).alloc (.cells #[.int .i64 0, .int .i64 0, .int .i64 0, .int .i64 0, .int .i64 0, .int .i64 0, .int .i64 0, .int .i64 0, .int .i64 0, .int .i64 0, .int .i64 0, .int .i64 0, .int .i64 0, .int .i64 0, .int .i64 0, .int .i64 0] 29)) := by
  have hB : Below w.heap.size w ((w.alloc (.cells (scC s) 32)).alloc (.cells #[.int .i64 0, .int .i64 0, .int .i64 0, .int .i64 0, .int .i64 0, .int .i64 0, .int .i64 0, .int .i64 0, .int .i64 0, .int .i64 0, .int .i64 0, .int .i64 0, .int .i64 0, .int .i64 0, .int .i64 0, .int .i64 0] 29)) := by go_grown
  refine ⟨step_row (ScAt.new w s), ?_, h.below hB, hB⟩
  have := heap_alloc_new (w.alloc (.cells (scC s) 32)) (.cells #[.int .i64 0, .int .i64 0, .int .i64 0, .int .i64 0, .int .i64 0, .int .i64 0, .int .i64 0, .int .i64 0, .int .i64 0, .int .i64 0, .int .i64 0, .int .i64 0, .int .i64 0, .int .i64 0, .int .i64 0, .int .i64 0] 29)
  rw [World.size_alloc] at this
  exact this
end Go.Proofs.Ytildnadkfonlhaa.Fx
