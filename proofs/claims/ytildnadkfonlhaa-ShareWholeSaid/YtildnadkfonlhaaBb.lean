/- The document's numbers of 64 bits, walked. -/
import Derived.Test.YtildnadkfonlhaaProg
import Derived.Test.YtildnadkfonlhaaBa
import Derived.Deep.WholeRow
set_option linter.unusedVariables false
set_option linter.unusedSimpArgs false
namespace Go.Proofs.Ytildnadkfonlhaa.Fx
open Go Go.RowKit Wm
theorem wpList_build_to {P : Program} {ops : Array Oper} {rest : List Oper} {o : Oper} {a : Act} {w : World} {Q : Exit → Act → World → Prop} (hg : o.guard = none) (t : TypeId) (parts : Array (Nat × Operand)) (ho : o.op = .build t parts)
    (cells : Array Value) (hb : P.built t (parts.map fun (i, x) => (i, a.eval x)).toList = some cells) (h : wpList P ops Q rest (a.put o.dst (.agg cells)) w) : wpList P ops Q (o :: rest) a w :=
  wpList_build hg t parts ho (by rw [hb]; rfl) (by rw [hb]; exact h)
/-- a store of the whole of the block that was just laid -/
theorem wpList_store_new {P : Program} {ops : Array Oper} {rest : List Oper} {op : Oper} {a : Act} {w : World} {Q : Exit → Act → World → Prop} (hgd : op.guard = none) (ty : TypeId) (x y : Operand) (ho : op.op = .store ty x y)
    (g : Nat) (t : TypeId) (c c' : Array Value) (hx : a.eval x = .pointer (some ⟨g, 0, none⟩)) (hg : w.heap.size = g) (hy : a.eval y = .agg c')
    (hi : (P.info? ty).map (·.size) = some c'.size) (hs : c.size = c'.size) (h1 : c'.all (·.oneCell') = true)
    (h : wpList P ops Q rest (a.put op.dst undef) (w.alloc (.cells c' t))) : wpList P ops Q (op :: rest) a (w.alloc (.cells c t)) := by
  subst hg
  refine wpList_store_big hgd ty x y ho w.heap.size t c c' hx hy (heap_alloc_new _ _) hi hs h1 ?_
  rw [World.setRow_alloc_new]
  exact h
theorem dgF_snoc : ∀ (k n : Nat), dgF (k + 1) n = dgF k n ++ [n / 65536 ^ k % 65536]
  | 0, n => by simp [dgF]
  | k + 1, n => by
    rw [dgF, dgF_snoc k, dgF, List.cons_append, Nat.div_div_eq_div_mul, Nat.pow_succ 65536 k, Nat.mul_comm]
theorem dgF_zero : ∀ k, dgF k 0 = List.replicate k 0
  | 0 => rfl
  | k + 1 => by rw [dgF, dgF_zero k]; rfl
theorem dgF_app : ∀ (k j n : Nat), dgF (k + j) n = dgF k n ++ dgF j (n / 65536 ^ k)
  | 0, j, n => by simp [dgF]
  | k + 1, j, n => by
    rw [show k + 1 + j = (k + j) + 1 by omega, dgF, dgF_app k, dgF, List.cons_append, Nat.div_div_eq_div_mul, Nat.pow_succ 65536 k, Nat.mul_comm]
theorem pad_dgF {k n : Nat} (hk : k ≤ 20) (h : n < 65536 ^ k) : pad (dgF k n) = dg n := by
  unfold pad dg
  rw [dgF_len, show 20 = k + (20 - k) by omega, dgF_app k, Nat.div_eq_of_lt h, dgF_zero, show k + (20 - k) - k = 20 - k by omega]
end Go.Proofs.Ytildnadkfonlhaa.Fx
