/- Layer 3's closed laws: the chapter's examples, walked. -/
import Derived.Test.YtgkcbadfjhicnaaProg
import Derived.Test.YtgkcbadfjhicnaaTu
import Derived.Test.YtgkcbadfjhicnaaEq
import Derived.KernelRfl
set_option linter.unusedVariables false
set_option linter.unusedSimpArgs false
namespace Go.Proofs.Ytgkcbadfjhicnaa.Fx
open Go Go.RowKit Go.Shelf Wm
/-- a call of which the answer is known, whatever the world -/
def Ans (f : Nat) (args : Array Value) (v : Value) : Prop := ∀ w, Calls Try.prog f args w fun e w' => e = .returned v ∧ Below w.heap.size w w'
theorem a_mv : Ans 39 #[.int .i64 1, .int .i64 2, .int .i64 3] (.agg (mC (mvl 1 2 3))) := fun w => move_any 1 2 3 w
theorem a_a1 : Ans 35 #[.agg (mC (mvl 1 2 3)), .agg #[.int .i64 10, .int .i64 20, .int .i64 30, .int .i64 65536]] (.tuple #[.agg #[.int .i64 11, .int .i64 22, .int .i64 33, .int .i64 65536], .int .i64 0]) := fun w => by
  have h := apply_any (mvl 1 2 3) [10, 20, 30, 65536] w rfl rfl
  rw [show apO (mvl 1 2 3) [10, 20, 30, 65536] = some [11, 22, 33, 65536] from by decide +kernel] at h
  exact h
theorem a_sc : Ans 40 #[.int .i64 (-1), .int .i64 1, .int .i64 1] (.agg (mC (scl (-1) 1 1))) := fun w => scale_any (-1) 1 1 w
theorem a_a2 : Ans 35 #[.agg (mC (scl (-1) 1 1)), .agg #[.int .i64 1, .int .i64 1, .int .i64 1, .int .i64 1]] (.tuple #[.agg #[.int .i64 (-1), .int .i64 0, .int .i64 0, .int .i64 1], .int .i64 0]) := fun w => by
  have h := apply_any (scl (-1) 1 1) [1, 1, 1, 1] w rfl rfl
  rw [show apO (scl (-1) 1 1) [1, 1, 1, 1] = some [-1, 0, 0, 1] from by decide +kernel] at h
  exact h
theorem a_t1 : Ans 42 #[.int .i64 2, .int .i64 1] (.tuple #[.agg #[.int .i64 0, .int .i64 (-65536), .int .i64 0, .int .i64 0, .int .i64 65536, .int .i64 0, .int .i64 0, .int .i64 0, .int .i64 0, .int .i64 0, .int .i64 65536, .int .i64 0, .int .i64 0, .int .i64 0, .int .i64 0, .int .i64 65536], .int .i64 0]) := fun w => turn_any 2 1 1 (by omega) (by omega) (by omega) w
theorem a_a3 : Ans 35 #[.agg #[.int .i64 0, .int .i64 (-65536), .int .i64 0, .int .i64 0, .int .i64 65536, .int .i64 0, .int .i64 0, .int .i64 0, .int .i64 0, .int .i64 0, .int .i64 65536, .int .i64 0, .int .i64 0, .int .i64 0, .int .i64 0, .int .i64 65536], .agg #[.int .i64 5, .int .i64 7, .int .i64 0, .int .i64 1]] (.tuple #[.agg #[.int .i64 (-7), .int .i64 5, .int .i64 0, .int .i64 1], .int .i64 0]) := fun w => by
  have h := apply_any (trn 2 1) [5, 7, 0, 1] w rfl rfl
  rw [show apO (trn 2 1) [5, 7, 0, 1] = some [-7, 5, 0, 1] from by decide +kernel] at h
  exact h
theorem a_t3 : Ans 42 #[.int .i64 3, .int .i64 1] (.tuple #[.agg #[.int .i64 0, .int .i64 0, .int .i64 0, .int .i64 0, .int .i64 0, .int .i64 0, .int .i64 0, .int .i64 0, .int .i64 0, .int .i64 0, .int .i64 0, .int .i64 0, .int .i64 0, .int .i64 0, .int .i64 0, .int .i64 0], .int .i64 2]) := fun w => turn_no 3 1 w (by omega)
theorem a_t4 : Ans 42 #[.int .i64 (-1), .int .i64 1] (.tuple #[.agg #[.int .i64 0, .int .i64 0, .int .i64 0, .int .i64 0, .int .i64 0, .int .i64 0, .int .i64 0, .int .i64 0, .int .i64 0, .int .i64 0, .int .i64 0, .int .i64 0, .int .i64 0, .int .i64 0, .int .i64 0, .int .i64 0], .int .i64 2]) := fun w => turn_no (-1) 1 w (by omega)
theorem a_s5 : Ans 40 #[.int .i64 4611686018427387904, .int .i64 0, .int .i64 0] (.agg (mC (scl 4611686018427387904 0 0))) := fun w => scale_any 4611686018427387904 0 0 w
theorem a_a5 : Ans 35 #[.agg (mC (scl 4611686018427387904 0 0)), .agg #[.int .i64 131072, .int .i64 0, .int .i64 0, .int .i64 0]] (.tuple #[.agg #[.int .i64 0, .int .i64 0, .int .i64 0, .int .i64 0], .int .i64 30]) := fun w => by
  have h := apply_any (scl 4611686018427387904 0 0) [131072, 0, 0, 0] w rfl rfl
  rw [show apO (scl 4611686018427387904 0 0) [131072, 0, 0, 0] = none from by decide +kernel] at h
  exact h
theorem a_a6 : Ans 35 #[.agg (mC (scl 4611686018427387904 0 0)), .agg #[.int .i64 65536, .int .i64 0, .int .i64 0, .int .i64 0]] (.tuple #[.agg #[.int .i64 4611686018427387904, .int .i64 0, .int .i64 0, .int .i64 0], .int .i64 0]) := fun w => by
  have h := apply_any (scl 4611686018427387904 0 0) [65536, 0, 0, 0] w rfl rfl
  rw [show apO (scl 4611686018427387904 0 0) [65536, 0, 0, 0] = some [4611686018427387904, 0, 0, 0] from by decide +kernel] at h
  exact h
theorem a_s7 : Ans 40 #[.int .i64 4611686018427387905, .int .i64 0, .int .i64 0] (.agg (mC (scl 4611686018427387905 0 0))) := fun w => scale_any 4611686018427387905 0 0 w
theorem a_m7 : Ans 33 #[.agg (mC (scl 4611686018427387905 0 0)), .agg #[.int .i64 0, .int .i64 0, .int .i64 0, .int .i64 0, .int .i64 0, .int .i64 0, .int .i64 0, .int .i64 0, .int .i64 0, .int .i64 0, .int .i64 0, .int .i64 0, .int .i64 0, .int .i64 0, .int .i64 0, .int .i64 0]] (.tuple #[.agg #[.int .i64 0, .int .i64 0, .int .i64 0, .int .i64 0, .int .i64 0, .int .i64 0, .int .i64 0, .int .i64 0, .int .i64 0, .int .i64 0, .int .i64 0, .int .i64 0, .int .i64 0, .int .i64 0, .int .i64 0, .int .i64 0], .int .i64 30]) := fun w => by
  have h := mmul_any (scl 4611686018427387905 0 0) zero16 w rfl rfl
  rw [show mulO (scl 4611686018427387905 0 0) zero16 = none from by decide +kernel] at h
  exact h
set_option maxRecDepth 100000 in
set_option maxHeartbeats 4000000 in
theorem alive_ok (w : World) : Calls Try.prog 45 #[] w fun e w' => e = .returned (.bool true) ∧ Below w.heap.size w w' := by
  go_enter Try.func45, Try.ntmps45
  go_wp2_with fail
  refine (a_mv _).mono ?_
  rintro e w1 ⟨rfl, hb1⟩
  go_wp2_with fail
  refine (a_a1 _).mono ?_
  rintro e w2 ⟨rfl, hb2⟩
  go_wp2_with fail
  refine (a_sc _).mono ?_
  rintro e w3 ⟨rfl, hb3⟩
  have hB2 : Below w.heap.size w w2 := bnext hb1 hb2
  have v3 : VecAt w2.heap.size 11 22 33 65536 w3 := VecAt.below hb3 (heap_alloc_new _ _)
  have hB3 : Below w.heap.size w w3 := bnext (hB2.alloc hB2.size _) hb3
  go_wp2_with fail
  refine (a_a2 _).mono ?_
  rintro e w4 ⟨rfl, hb4⟩
  have v4 : VecAt w2.heap.size 11 22 33 65536 w4 := v3.below hb4
  have hB4 : Below w.heap.size w w4 := bnext hB3 hb4
  have hS4 := hB4.size
  obtain ⟨c0, c1, c2, c3⟩ := v4.cells
  have hlt := v4.lt
  clear v3 v4
  have he1 : ∀ w, (binOp .eql 62 (.agg #[.int .i64 11, .int .i64 22, .int .i64 33, .int .i64 65536]) (.agg #[.int .i64 11, .int .i64 22, .int .i64 33, .int .i64 65536])).run Try.prog w = .ok (.bool true) w := fun w => eql_vec w [11, 22, 33, 65536] [11, 22, 33, 65536] rfl rfl
  have he2 : ∀ w, (binOp .eql 62 (.agg #[.int .i64 (-1), .int .i64 0, .int .i64 0, .int .i64 1]) (.agg #[.int .i64 (-1), .int .i64 0, .int .i64 0, .int .i64 1])).run Try.prog w = .ok (.bool true) w := fun w => eql_vec w [-1, 0, 0, 1] [-1, 0, 0, 1] rfl rfl
  go_wp2
  go_ret
  exact ⟨rfl, by (repeat' (first | (with_reducible exact Below.refl _ _) | (with_reducible assumption) | (with_reducible refine Below.drew ?_) | (with_reducible refine Below.setCell ?_ ?_ _) | (with_reducible refine bnext ?_ (by assumption)) | (with_reducible refine Below.alloc ?_ ?_ _) | go_size))⟩
end Go.Proofs.Ytgkcbadfjhicnaa.Fx
