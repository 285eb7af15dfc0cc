/- MatrixTurns, walked. -/
import Derived.Test.YtjeolpgmhgfahaaProg
import Derived.Test.YtjeolpgmhgfahaaBo
import Derived.Test.YtjeolpgmhgfahaaBb
set_option linter.unusedVariables false
set_option linter.unusedSimpArgs false
namespace Go.Proofs.Ytjeolpgmhgfahaa.Fx
open Go Go.RowKit Go.Shelf Wm
theorem exec_load_row {P : Program} {o : Oper} {a : Act} {w : World} (ty : TypeId) (x : Operand) (ho : o.op = .load ty x)
    (g : Nat) (hx : a.eval x = .pointer (some ⟨g, 0, none⟩)) (t : TypeId) (cs : Array Value) (fr : Nat × Nat) (d : TypeDesc) (hg : w.heap[g]? = some (.cells cs t fr))
    (hu : P.underlying ty = some d) (hd : (match d with | .struct _ | .array _ _ => true | _ => false) = true) (hi : (P.info? ty).map (·.size) = some cs.size) :
    (execOp a.eval o).run P w = .ok (.value (.agg cs)) w := by
  unfold execOp
  simp only [ho, hx, Instr.loadAt, Instr.sureAddr, Sem.run_bind, Sem.run_pure, Result.andThen_ok, run_loadVar_row w g t ty cs fr d hg hu hd hi]
theorem held_take_at {F : Fence} {n : Nat} {P : Program} {ops : Array Oper} {Q : Exit → Act → World → Prop} {md : Region.Mode} {S : World → Prop} (d : Option Tmp) (hF : ∀ f, F.fn f) (hd : Calm ops = true) {i : Nat} {oi : Oper} {v : Value} {fuel : Nat} {listed : Array Bool} {a : Act} {w : World} (hi : ops[i]? = some oi)
    (hs : Region.noSelect ops = true) (hf : Region.free md ops listed i = true) (hr : (Region.ready md ops listed).contains i = true)
    (hQ : ∀ c a w, Q (.panic c) (a.put oi.dst v) w → Q (.panic c) a w) (hS : S w) (hy : YieldsIf P ops S oi v a) (hdst : oi.dst = d)
    (h : HeldIn F n P md ops Q S fuel (listed.setIfInBounds i true) (a.put d v) w) : HeldIn F n P md ops Q S (fuel + 1) listed a w :=
  held_take hF hd hi hs hf hr hQ hS hy (by rw [hdst]; exact h)
theorem rows_turn (k r : Nat) (hk : k < 3) (hr : r < 4) (x y z : Int) : ∃ q0 q1 q2 : Int, apRows (trn k r) [x, y, z, 1] = [q0, q1, q2, 1] ∧ q0.natAbs + q1.natAbs + q2.natAbs = x.natAbs + y.natAbs + z.natAbs ∧ [q0, q1, q2, 1].getD k 0 = [x, y, z].getD k 0 := by
  have hd : k = 0 ∨ k = 1 ∨ k = 2 := by omega
  have hd2 : r = 0 ∨ r = 1 ∨ r = 2 ∨ r = 3 := by omega
  rcases hd with rfl | rfl | rfl
  · rcases hd2 with rfl | rfl | rfl | rfl
    · refine ⟨x, y, z, ?_, by omega, rfl⟩
      show [((65536 : Int) * x + 0 * y + 0 * z + 0 * 1) / 65536, ((0 : Int) * x + 65536 * y + 0 * z + 0 * 1) / 65536, ((0 : Int) * x + 0 * y + 65536 * z + 0 * 1) / 65536, ((0 : Int) * x + 0 * y + 0 * z + 65536 * 1) / 65536] = _
      congr 1
      · omega
      congr 1
      · omega
      congr 1
      · omega
      congr 1
      omega
    · refine ⟨x, -z, y, ?_, by omega, rfl⟩
      show [((65536 : Int) * x + 0 * y + 0 * z + 0 * 1) / 65536, ((0 : Int) * x + 0 * y + (-65536) * z + 0 * 1) / 65536, ((0 : Int) * x + 65536 * y + 0 * z + 0 * 1) / 65536, ((0 : Int) * x + 0 * y + 0 * z + 65536 * 1) / 65536] = _
      congr 1
      · omega
      congr 1
      · omega
      congr 1
      · omega
      congr 1
      omega
    · refine ⟨x, -y, -z, ?_, by omega, rfl⟩
      show [((65536 : Int) * x + 0 * y + 0 * z + 0 * 1) / 65536, ((0 : Int) * x + (-65536) * y + 0 * z + 0 * 1) / 65536, ((0 : Int) * x + 0 * y + (-65536) * z + 0 * 1) / 65536, ((0 : Int) * x + 0 * y + 0 * z + 65536 * 1) / 65536] = _
      congr 1
      · omega
      congr 1
      · omega
      congr 1
      · omega
      congr 1
      omega
    · refine ⟨x, z, -y, ?_, by omega, rfl⟩
      show [((65536 : Int) * x + 0 * y + 0 * z + 0 * 1) / 65536, ((0 : Int) * x + 0 * y + 65536 * z + 0 * 1) / 65536, ((0 : Int) * x + (-65536) * y + 0 * z + 0 * 1) / 65536, ((0 : Int) * x + 0 * y + 0 * z + 65536 * 1) / 65536] = _
      congr 1
      · omega
      congr 1
      · omega
      congr 1
      · omega
      congr 1
      omega
  · rcases hd2 with rfl | rfl | rfl | rfl
    · refine ⟨x, y, z, ?_, by omega, rfl⟩
      show [((65536 : Int) * x + 0 * y + 0 * z + 0 * 1) / 65536, ((0 : Int) * x + 65536 * y + 0 * z + 0 * 1) / 65536, ((0 : Int) * x + 0 * y + 65536 * z + 0 * 1) / 65536, ((0 : Int) * x + 0 * y + 0 * z + 65536 * 1) / 65536] = _
      congr 1
      · omega
      congr 1
      · omega
      congr 1
      · omega
      congr 1
      omega
    · refine ⟨z, y, -x, ?_, by omega, rfl⟩
      show [((0 : Int) * x + 0 * y + 65536 * z + 0 * 1) / 65536, ((0 : Int) * x + 65536 * y + 0 * z + 0 * 1) / 65536, (((-65536) : Int) * x + 0 * y + 0 * z + 0 * 1) / 65536, ((0 : Int) * x + 0 * y + 0 * z + 65536 * 1) / 65536] = _
      congr 1
      · omega
      congr 1
      · omega
      congr 1
      · omega
      congr 1
      omega
    · refine ⟨-x, y, -z, ?_, by omega, rfl⟩
      show [(((-65536) : Int) * x + 0 * y + 0 * z + 0 * 1) / 65536, ((0 : Int) * x + 65536 * y + 0 * z + 0 * 1) / 65536, ((0 : Int) * x + 0 * y + (-65536) * z + 0 * 1) / 65536, ((0 : Int) * x + 0 * y + 0 * z + 65536 * 1) / 65536] = _
      congr 1
      · omega
      congr 1
      · omega
      congr 1
      · omega
      congr 1
      omega
    · refine ⟨-z, y, x, ?_, by omega, rfl⟩
      show [((0 : Int) * x + 0 * y + (-65536) * z + 0 * 1) / 65536, ((0 : Int) * x + 65536 * y + 0 * z + 0 * 1) / 65536, ((65536 : Int) * x + 0 * y + 0 * z + 0 * 1) / 65536, ((0 : Int) * x + 0 * y + 0 * z + 65536 * 1) / 65536] = _
      congr 1
      · omega
      congr 1
      · omega
      congr 1
      · omega
      congr 1
      omega
  · rcases hd2 with rfl | rfl | rfl | rfl
    · refine ⟨x, y, z, ?_, by omega, rfl⟩
      show [((65536 : Int) * x + 0 * y + 0 * z + 0 * 1) / 65536, ((0 : Int) * x + 65536 * y + 0 * z + 0 * 1) / 65536, ((0 : Int) * x + 0 * y + 65536 * z + 0 * 1) / 65536, ((0 : Int) * x + 0 * y + 0 * z + 65536 * 1) / 65536] = _
      congr 1
      · omega
      congr 1
      · omega
      congr 1
      · omega
      congr 1
      omega
    · refine ⟨-y, x, z, ?_, by omega, rfl⟩
      show [((0 : Int) * x + (-65536) * y + 0 * z + 0 * 1) / 65536, ((65536 : Int) * x + 0 * y + 0 * z + 0 * 1) / 65536, ((0 : Int) * x + 0 * y + 65536 * z + 0 * 1) / 65536, ((0 : Int) * x + 0 * y + 0 * z + 65536 * 1) / 65536] = _
      congr 1
      · omega
      congr 1
      · omega
      congr 1
      · omega
      congr 1
      omega
    · refine ⟨-x, -y, z, ?_, by omega, rfl⟩
      show [(((-65536) : Int) * x + 0 * y + 0 * z + 0 * 1) / 65536, ((0 : Int) * x + (-65536) * y + 0 * z + 0 * 1) / 65536, ((0 : Int) * x + 0 * y + 65536 * z + 0 * 1) / 65536, ((0 : Int) * x + 0 * y + 0 * z + 65536 * 1) / 65536] = _
      congr 1
      · omega
      congr 1
      · omega
      congr 1
      · omega
      congr 1
      omega
    · refine ⟨y, -x, z, ?_, by omega, rfl⟩
      show [((0 : Int) * x + 65536 * y + 0 * z + 0 * 1) / 65536, (((-65536) : Int) * x + 0 * y + 0 * z + 0 * 1) / 65536, ((0 : Int) * x + 0 * y + 65536 * z + 0 * 1) / 65536, ((0 : Int) * x + 0 * y + 0 * z + 65536 * 1) / 65536] = _
      congr 1
      · omega
      congr 1
      · omega
      congr 1
      · omega
      congr 1
      omega
theorem may_turn (k r : Nat) (hk : k < 3) (hr : r < 4) : wB 4611686018427387904 (trn k r) 16 = true := by
  have hd : k = 0 ∨ k = 1 ∨ k = 2 := by omega
  have hd2 : r = 0 ∨ r = 1 ∨ r = 2 ∨ r = 3 := by omega
  rcases hd with rfl | rfl | rfl <;> rcases hd2 with rfl | rfl | rfl | rfl <;> (show _ = _; kernel_rfl)
theorem mul_turn (k r s : Nat) (hk : k < 3) (hr : r < 4) (hs : s < 4) : mulO (trn k r) (trn k s) = some (trn k ((r + s) % 4)) := by
  have hd : k = 0 ∨ k = 1 ∨ k = 2 := by omega
  have hd2 : r = 0 ∨ r = 1 ∨ r = 2 ∨ r = 3 := by omega
  have hd3 : s = 0 ∨ s = 1 ∨ s = 2 ∨ s = 3 := by omega
  rcases hd with rfl | rfl | rfl <;> rcases hd2 with rfl | rfl | rfl | rfl <;> rcases hd3 with rfl | rfl | rfl | rfl <;> (show _ = _; kernel_rfl)
theorem w4 {q0 q1 q2 q3 : Int} (h0 : q0.natAbs ≤ 4611686018427387904) (h1 : q1.natAbs ≤ 4611686018427387904) (h2 : q2.natAbs ≤ 4611686018427387904) (h3 : q3.natAbs ≤ 4611686018427387904) : wB 4611686018427387904 [q0, q1, q2, q3] 4 = true := by
  refine wB_iff.2 fun j hj => ?_
  have hd : j = 0 ∨ j = 1 ∨ j = 2 ∨ j = 3 := by omega
  rcases hd with rfl | rfl | rfl | rfl
  · show (0 : Int) ≤ _ ∧ _ ≤ q0 ∧ q0 ≤ _; omega
  · show (0 : Int) ≤ _ ∧ _ ≤ q1 ∧ q1 ≤ _; omega
  · show (0 : Int) ≤ _ ∧ _ ≤ q2 ∧ q2 ≤ _; omega
  · show (0 : Int) ≤ _ ∧ _ ≤ q3 ∧ q3 ≤ _; omega
theorem ap_turn (k r : Nat) (hk : k < 3) (hr : r < 4) (x y z : Int) (hx : x.natAbs ≤ 2147483648) (hy : y.natAbs ≤ 2147483648) (hz : z.natAbs ≤ 2147483648) :
    ∃ q0 q1 q2 : Int, apO (trn k r) [x, y, z, 1] = some [q0, q1, q2, 1] ∧ q0.natAbs + q1.natAbs + q2.natAbs = x.natAbs + y.natAbs + z.natAbs ∧ [q0, q1, q2, 1].getD k 0 = [x, y, z].getD k 0 := by
  obtain ⟨q0, q1, q2, h, hs, hi⟩ := rows_turn k r hk hr x y z
  refine ⟨q0, q1, q2, ?_, hs, hi⟩
  unfold apO
  rw [h, if_pos ⟨may_turn k r hk hr, w4 (by omega) (by omega) (by omega) (by omega), w4 (by omega) (by omega) (by omega) (by omega)⟩]
set_option maxRecDepth 100000 in
set_option maxHeartbeats 5000000 in
theorem walk_turns (ax a b x y z : Int) (k : Nat) (M N S I : List Int) (q0 q1 q2 : Int) (w : World) (hk3 : k < 3) (a0 : 0 ≤ a ∧ a ≤ 255) (b0 : 0 ≤ b ∧ b ≤ 255) (ax0 : 0 ≤ ax ∧ ax ≤ 255)
    (hx : -2147483648 ≤ x ∧ x ≤ 2147483647) (hy : -2147483648 ≤ y ∧ y ≤ 2147483647) (hz : -2147483648 ≤ z ∧ z ≤ 2147483647)
    (sM : Hid ((Try.prog.info? 64).map (·.size) = some (mC M).size)) (zM : Hid (16 = (mC M).size)) (sN : Hid ((Try.prog.info? 64).map (·.size) = some (mC N).size)) (zN : Hid (16 = (mC N).size))
    (sS : Hid ((Try.prog.info? 64).map (·.size) = some (mC S).size)) (zS : Hid (16 = (mC S).size)) (sI : Hid ((Try.prog.info? 64).map (·.size) = some (mC I).size)) (zI : Hid (16 = (mC I).size))
    (hk : ax.tmod 3 = (k : Int)) (cM : Hid (Ans 45 #[.int .i64 (k : Int), .int .i64 a] (.tuple #[.agg (mC M), .int .i64 0])))
    (cN : Hid (Ans 45 #[.int .i64 (k : Int), .int .i64 (-b)] (.tuple #[.agg (mC N), .int .i64 0])))
    (cS : Hid (Ans 45 #[.int .i64 (k : Int), .int .i64 (a - b)] (.tuple #[.agg (mC S), .int .i64 0])))
    (cI : Hid (Ans 45 #[.int .i64 (k : Int), .int .i64 (4 * a)] (.tuple #[.agg (mC I), .int .i64 0])))
    (cP : Hid (Ans 36 #[.agg (mC M), .agg (mC N)] (.tuple #[.agg (mC S), .int .i64 0])))
    (cV : Hid (Ans 38 #[.agg (mC M), .agg #[.int .i64 x, .int .i64 y, .int .i64 z, .int .i64 1]] (.tuple #[.agg #[.int .i64 q0, .int .i64 q1, .int .i64 q2, .int .i64 1], .int .i64 0])))
    (cE : Hid (Ans 44 #[] (.agg (mC I)))) (hsum : Hid (q0.natAbs + q1.natAbs + q2.natAbs = x.natAbs + y.natAbs + z.natAbs)) (hix : Hid ([q0, q1, q2, 1].getD k 0 = [x, y, z].getD k 0)) :
    Calls Try.prog 10 #[.int .u8 ax, .int .u8 a, .int .u8 b, .int .i32 x, .int .i32 y, .int .i32 z] w fun e w' => e = .returned (.bool true) ∧ Below w.heap.size w w' := by
  obtain ⟨a0, a1⟩ := a0
  obtain ⟨b0, b1⟩ := b0
  obtain ⟨x0, x1⟩ := hx
  obtain ⟨y0, y1⟩ := hy
  obtain ⟨z0, z1⟩ := hz
  obtain ⟨d0, d1⟩ := ax0
  go_enter Try.func10, Try.ntmps10
  go_wp2_with fail
  refine (alive_ok _).mono ?_
  rintro e w1 ⟨rfl, hB1⟩
  have hS1 := hB1.size
  go_wp2_with fail
  refine (cM.out _).mono ?_
  rintro e w2 ⟨rfl, hb2⟩
  have hB2 : Below w.heap.size w w2 := bnext hB1 hb2
  have hS2 := hB2.size
  clear hb2 hB1 hS1
  go_wp2_with (refine wpList_store_new rfl 64 (.tmp 15) (.tmp 37) rfl w2.heap.size _ _ (mC M) rfl rfl rfl sM.out zM.out (mC_one _) ?_)
  refine (cN.out _).mono ?_
  rintro e w3 ⟨rfl, hb3⟩
  have hB3 : Below w.heap.size w w3 := bnext (hB2.alloc hB2.size _) hb3
  have hS3 := hB3.size
  have rM : MatAt w2.heap.size M w3 := MatAt.below hb3 (heap_alloc_new _ _)
  clear hb3
  go_wp2_with (refine wpList_store_new rfl 64 (.tmp 17) (.tmp 45) rfl w3.heap.size _ _ (mC N) rfl rfl rfl sN.out zN.out (mC_one _) ?_)
  refine (cS.out _).mono ?_
  rintro e w4 ⟨rfl, hb4⟩
  have hB4 : Below w.heap.size w w4 := bnext (hB3.alloc hB3.size _) hb4
  have hS4 := hB4.size
  replace rM : MatAt w2.heap.size M w4 := MatAt.below hb4 (step_row rM)
  have rN : MatAt w3.heap.size N w4 := MatAt.below hb4 (heap_alloc_new _ _)
  clear hb4
  have RM := Lib.hid (show MatAt w2.heap.size M (w4.alloc (.cells (mC S) 64)) from step_row rM)
  have RN := Lib.hid (show MatAt w3.heap.size N (w4.alloc (.cells (mC S) 64)) from step_row rN)
  clear rM rN
  go_wp2_with (first | (refine wpList_store_new rfl 64 (.tmp 19) (.tmp 55) rfl w4.heap.size _ _ (mC S) rfl rfl rfl sS.out zS.out (mC_one _) ?_) | (refine wpList_load_row rfl 64 (.tmp 15) rfl w2.heap.size rfl _ _ _ _ RM.out Try.underlying64 rfl sM.out ?_) | (refine wpList_load_row rfl 64 (.tmp 17) rfl w3.heap.size rfl _ _ _ _ RN.out Try.underlying64 rfl sN.out ?_))
  refine (cP.out _).mono ?_
  rintro e w5 ⟨rfl, hb5⟩
  have hB5 : Below w.heap.size w w5 := bnext (hB4.alloc hB4.size _) hb5
  have hS5 := hB5.size
  have rS : MatAt w4.heap.size S w5 := MatAt.below hb5 (heap_alloc_new _ _)
  have rM : MatAt w2.heap.size M w5 := MatAt.below hb5 RM.out
  clear hb5 RM RN
  go_wp2_with (refine wpList_store_new rfl 64 (.tmp 21) (.tmp 61) rfl w5.heap.size _ _ (mC S) rfl rfl rfl sS.out zS.out (mC_one _) ?_)
  refine (cI.out _).mono ?_
  rintro e w6 ⟨rfl, hb6⟩
  have hB6 : Below w.heap.size w w6 := bnext (hB5.alloc hB5.size _) hb6
  have hS6 := hB6.size
  replace rS : MatAt w4.heap.size S w6 := MatAt.below hb6 (step_row rS)
  replace rM : MatAt w2.heap.size M w6 := MatAt.below hb6 (step_row rM)
  have rP : MatAt w5.heap.size S w6 := MatAt.below hb6 (heap_alloc_new _ _)
  clear hb6
  have RM := Lib.hid (show MatAt w2.heap.size M (w6.alloc (.cells (mC I) 64)) from step_row rM)
  clear rM
  go_wp2_with (first | (refine wpList_store_new rfl 64 (.tmp 23) (.tmp 69) rfl w6.heap.size _ _ (mC I) rfl rfl rfl sI.out zI.out (mC_one _) ?_) | (refine wpList_load_row rfl 64 (.tmp 15) rfl w2.heap.size rfl _ _ _ _ RM.out Try.underlying64 rfl sM.out ?_))
  refine (cV.out _).mono ?_
  rintro e w7 ⟨rfl, hb7⟩
  have hB7 : Below w.heap.size w w7 := bnext (hB6.alloc hB6.size _) hb7
  have hS7 := hB7.size
  replace rS : MatAt w4.heap.size S w7 := MatAt.below hb7 (step_row rS)
  replace rP : MatAt w5.heap.size S w7 := MatAt.below hb7 (step_row rP)
  have rI : MatAt w6.heap.size I w7 := MatAt.below hb7 (heap_alloc_new _ _)
  clear hb7 RM
  have cw : ∀ j, j < 4 → (w7.alloc (.cells #[.int .i64 q0, .int .i64 q1, .int .i64 q2, .int .i64 1] 62)).cell? ⟨w7.heap.size, j, none⟩ = some (.int .i64 ([q0, q1, q2, 1].getD j 0)) := fun j hj => VecL.cell (m := [q0, q1, q2, 1]) (heap_alloc_new _ _) hj
  have hck := cw k (by omega)
  have hc0 := cw 0 (by decide)
  have hc1 := cw 1 (by decide)
  have hc2 := cw 2 (by decide)
  have hc3 := cw 3 (by decide)
  simp only [List.getD_cons_zero, List.getD_cons_succ] at hc0 hc1 hc2 hc3
  clear cw
  have mS := step_row (o := .cells #[.int .i64 q0, .int .i64 q1, .int .i64 q2, .int .i64 1] 62) rS
  have mP := step_row (o := .cells #[.int .i64 q0, .int .i64 q1, .int .i64 q2, .int .i64 1] 62) rP
  have mI := step_row (o := .cells #[.int .i64 q0, .int .i64 q1, .int .i64 q2, .int .i64 1] 62) rI
  have HB7 := Lib.hid (hB7.alloc hB7.size (.cells #[.int .i64 q0, .int .i64 q1, .int .i64 q2, .int .i64 1] 62))
  have hsm := hsum.out
  have hixx : ∀ w, (Instr.index 85 (.agg #[.int .i64 x, .int .i64 y, .int .i64 z]) (.int .i64 (k : Int))).run Try.prog w = .ok (.int .i64 ([q0, q1, q2, 1].getD k 0)) w := by
    intro w
    rw [hix.out]
    have hd : k = 0 ∨ k = 1 ∨ k = 2 := by omega
    rcases hd with rfl | rfl | rfl <;> (show _ = _; kernel_rfl)
  obtain ⟨qk, hqk⟩ : ∃ qk, [q0, q1, q2, 1].getD k 0 = qk := ⟨_, rfl⟩
  rw [hqk] at hck hixx
  obtain ⟨n0, h0⟩ : ∃ n, q0.natAbs = n := ⟨_, rfl⟩
  obtain ⟨n1, h1⟩ : ∃ n, q1.natAbs = n := ⟨_, rfl⟩
  obtain ⟨n2, h2⟩ : ∃ n, q2.natAbs = n := ⟨_, rfl⟩
  obtain ⟨m0, g0⟩ : ∃ n, x.natAbs = n := ⟨_, rfl⟩
  obtain ⟨m1, g1⟩ : ∃ n, y.natAbs = n := ⟨_, rfl⟩
  obtain ⟨m2, g2⟩ : ∃ n, z.natAbs = n := ⟨_, rfl⟩
  have A0 := fun w => abs_any q0 w (by omega) (by omega)
  have A1 := fun w => abs_any q1 w (by omega) (by omega)
  have A2 := fun w => abs_any q2 w (by omega) (by omega)
  have A3 := fun w => abs_any x w (by omega) (by omega)
  have A4 := fun w => abs_any y w (by omega) (by omega)
  have A5 := fun w => abs_any z w (by omega) (by omega)
  rw [h0] at A0 hsm
  rw [h1] at A1 hsm
  rw [h2] at A2 hsm
  rw [g0] at A3 hsm
  rw [g1] at A4 hsm
  rw [g2] at A5 hsm
  have C0 := Lib.hid A0
  have C1 := Lib.hid A1
  have C2 := Lib.hid A2
  have C3 := Lib.hid A3
  have C4 := Lib.hid A4
  have C5 := Lib.hid A5
  clear A0 A1 A2 A3 A4 A5
  have lim : m0 + m1 + m2 ≤ 6442450944 := by omega
  obtain ⟨s1, e1⟩ : ∃ n, n0 + n1 = n := ⟨_, rfl⟩
  obtain ⟨s2, e2⟩ : ∃ n, s1 + n2 = n := ⟨_, rfl⟩
  obtain ⟨u1, e3⟩ : ∃ n, m0 + m1 = n := ⟨_, rfl⟩
  have e4 : u1 + m2 = s2 := by omega
  have E1 : IntKind.i64.wrap ((n0 : Int) + (n1 : Int)) = (s1 : Int) := by rw [IntKind.wrap_i64]; omega
  have E2 : IntKind.i64.wrap ((s1 : Int) + (n2 : Int)) = (s2 : Int) := by rw [IntKind.wrap_i64]; omega
  have E3 : IntKind.i64.wrap ((m0 : Int) + (m1 : Int)) = (u1 : Int) := by rw [IntKind.wrap_i64]; omega
  have E4 : IntKind.i64.wrap ((u1 : Int) + (m2 : Int)) = (s2 : Int) := by rw [IntKind.wrap_i64]; omega
  have X1 : IntKind.i64.wrap x = x := by rw [IntKind.wrap_i64]; omega
  have X2 : IntKind.i64.wrap y = y := by rw [IntKind.wrap_i64]; omega
  have X3 : IntKind.i64.wrap z = z := by rw [IntKind.wrap_i64]; omega
  have k0 : (0 : Int) ≤ (k : Int) := by omega
  have k1 : (k : Int) < 4 := by omega
  have k2 : (k : Int) < 3 := by omega
  have eS : ∀ w, (binOp .eql 64 (.agg (mC S)) (.agg (mC S))).run Try.prog w = .ok (.bool true) w := fun w => by rw [eql_mat w S S (by rw [← mC_size]; exact zS.out.symm) (by rw [← mC_size]; exact zS.out.symm), beq_self_eq_true]
  have eI : ∀ w, (binOp .eql 64 (.agg (mC I)) (.agg (mC I))).run Try.prog w = .ok (.bool true) w := fun w => by rw [eql_mat w I I (by rw [← mC_size]; exact zI.out.symm) (by rw [← mC_size]; exact zI.out.symm), beq_self_eq_true]
  clear hsm hsum hix hqk h0 h1 h2 g0 g1 g2 lim e1 e2 e3 e4 rS rP rI hB2 hB3 hB4 hB5 hB6 hB7 hS2 hS3 hS4 hS5 hS6 hS7 a0 a1 b0 b1 d0 d1 x0 x1 y0 y1 z0 z1 hk hk3
  go_wp2_with fail
  generalize (w7.alloc (.cells #[.int .i64 q0, .int .i64 q1, .int .i64 q2, .int .i64 1] 62)) = V at hc0 hc1 hc2 hc3 hck mS mP mI HB7 ⊢
  have MS : Hid (MatAt w4.heap.size S V) := Lib.hid mS
  have MP : Hid (MatAt w5.heap.size S V) := Lib.hid mP
  have MI : Hid (MatAt w6.heap.size I V) := Lib.hid mI
  have HCK := Lib.hid hck
  have HC3 := Lib.hid hc3
  clear mS mP mI
  refine (wpIn_wide (n := 5)).1 (held_region (F := Fence.wide) (S := fun W => W.cell? ⟨w7.heap.size, 0, none⟩ = some (.int .i64 q0) ∧ W.cell? ⟨w7.heap.size, 1, none⟩ = some (.int .i64 q1) ∧ W.cell? ⟨w7.heap.size, 2, none⟩ = some (.int .i64 q2)) (by kernel_rfl) ⟨hc0, hc1, hc2⟩ (fun hHeld => ?_))
  refine held_take (fun _ => trivial) (by kernel_rfl) (i := 0) (oi := _) (v := ?_) rfl (by kernel_rfl) (by kernel_rfl) (by kernel_rfl) (fun _ _ _ h => h) (by assumption) (Or.inl ⟨by kernel_rfl, ?_⟩) ?_
  rotate_left
  · intro wz hSw; obtain ⟨h1, h2, h3⟩ := hSw; (first | (go_simp; done) | (go_simp; with_reducible rfl))
  (try simp only [Act.put, List.getElem_toArray, List.getElem_cons_zero, List.getElem_cons_succ, List.setIfInBounds_toArray, List.set_cons_zero, List.set_cons_succ])
  refine held_take (fun _ => trivial) (by kernel_rfl) (i := 1) (oi := _) (v := ?_) rfl (by kernel_rfl) (by kernel_rfl) (by kernel_rfl) (fun _ _ _ h => h) (by assumption) (Or.inl ⟨by kernel_rfl, ?_⟩) ?_
  rotate_left
  · intro wz hSw; obtain ⟨h1, h2, h3⟩ := hSw; (first | (go_simp; done) | (go_simp; with_reducible rfl))
  (try simp only [Act.put, List.getElem_toArray, List.getElem_cons_zero, List.getElem_cons_succ, List.setIfInBounds_toArray, List.set_cons_zero, List.set_cons_succ])
  refine held_take (fun _ => trivial) (by kernel_rfl) (i := 3) (oi := _) (v := ?_) rfl (by kernel_rfl) (by kernel_rfl) (by kernel_rfl) (fun _ _ _ h => h) (by assumption) (Or.inl ⟨by kernel_rfl, ?_⟩) ?_
  rotate_left
  · intro wz hSw; obtain ⟨h1, h2, h3⟩ := hSw; (first | (go_simp; done) | (go_simp; with_reducible rfl))
  (try simp only [Act.put, List.getElem_toArray, List.getElem_cons_zero, List.getElem_cons_succ, List.setIfInBounds_toArray, List.set_cons_zero, List.set_cons_succ])
  refine held_take (fun _ => trivial) (by kernel_rfl) (i := 4) (oi := _) (v := ?_) rfl (by kernel_rfl) (by kernel_rfl) (by kernel_rfl) (fun _ _ _ h => h) (by assumption) (Or.inl ⟨by kernel_rfl, ?_⟩) ?_
  rotate_left
  · intro wz hSw; obtain ⟨h1, h2, h3⟩ := hSw; (first | (go_simp; done) | (go_simp; with_reducible rfl))
  (try simp only [Act.put, List.getElem_toArray, List.getElem_cons_zero, List.getElem_cons_succ, List.setIfInBounds_toArray, List.set_cons_zero, List.set_cons_succ])
  refine held_take (fun _ => trivial) (by kernel_rfl) (i := 7) (oi := _) (v := ?_) rfl (by kernel_rfl) (by kernel_rfl) (by kernel_rfl) (fun _ _ _ h => h) (by assumption) (Or.inl ⟨by kernel_rfl, ?_⟩) ?_
  rotate_left
  · intro wz hSw; obtain ⟨h1, h2, h3⟩ := hSw; (first | (go_simp; done) | (go_simp; with_reducible rfl))
  (try simp only [Act.put, List.getElem_toArray, List.getElem_cons_zero, List.getElem_cons_succ, List.setIfInBounds_toArray, List.set_cons_zero, List.set_cons_succ])
  refine held_take (fun _ => trivial) (by kernel_rfl) (i := 8) (oi := _) (v := ?_) rfl (by kernel_rfl) (by kernel_rfl) (by kernel_rfl) (fun _ _ _ h => h) (by assumption) (Or.inl ⟨by kernel_rfl, ?_⟩) ?_
  rotate_left
  · intro wz hSw; obtain ⟨h1, h2, h3⟩ := hSw; (first | (go_simp; done) | (go_simp; with_reducible rfl))
  (try simp only [Act.put, List.getElem_toArray, List.getElem_cons_zero, List.getElem_cons_succ, List.setIfInBounds_toArray, List.set_cons_zero, List.set_cons_succ])
  refine held_step (fun _ => trivial) (i := 2) (o := _) (by kernel_rfl) rfl (fun K hK => ?_)
  go_simp
  refine ⟨trivial, callsIn_wide.2 ((C0.out _).mono ?_)⟩
  rintro e wz ⟨rfl, rfl⟩
  dsimp only
  refine hK.out _ _ hHeld (fun hHeld => ?_)
  clear hK K
  (try simp only [Act.put, List.getElem_toArray, List.getElem_cons_zero, List.getElem_cons_succ, List.setIfInBounds_toArray, List.set_cons_zero, List.set_cons_succ])

  refine held_step (fun _ => trivial) (i := 5) (o := _) (by kernel_rfl) rfl (fun K hK => ?_)
  go_simp
  refine ⟨trivial, callsIn_wide.2 ((C1.out _).mono ?_)⟩
  rintro e wz ⟨rfl, rfl⟩
  dsimp only
  refine hK.out _ _ hHeld (fun hHeld => ?_)
  clear hK K
  (try simp only [Act.put, List.getElem_toArray, List.getElem_cons_zero, List.getElem_cons_succ, List.setIfInBounds_toArray, List.set_cons_zero, List.set_cons_succ])

  refine held_take (fun _ => trivial) (by kernel_rfl) (i := 6) (oi := _) (v := ?_) rfl (by kernel_rfl) (by kernel_rfl) (by kernel_rfl) (fun _ _ _ h => h) (by assumption) (Or.inl ⟨by kernel_rfl, ?_⟩) ?_
  rotate_left
  · intro wz hSw; obtain ⟨h1, h2, h3⟩ := hSw; (first | (go_simp; done) | (go_simp; with_reducible rfl))
  (try simp only [Act.put, List.getElem_toArray, List.getElem_cons_zero, List.getElem_cons_succ, List.setIfInBounds_toArray, List.set_cons_zero, List.set_cons_succ])
  refine held_step (fun _ => trivial) (i := 9) (o := _) (by kernel_rfl) rfl (fun K hK => ?_)
  go_simp
  refine ⟨trivial, callsIn_wide.2 ((C2.out _).mono ?_)⟩
  rintro e wz ⟨rfl, rfl⟩
  dsimp only
  refine hK.out _ _ hHeld (fun hHeld => ?_)
  clear hK K
  (try simp only [Act.put, List.getElem_toArray, List.getElem_cons_zero, List.getElem_cons_succ, List.setIfInBounds_toArray, List.set_cons_zero, List.set_cons_succ])

  refine held_take (fun _ => trivial) (by kernel_rfl) (i := 10) (oi := _) (v := ?_) rfl (by kernel_rfl) (by kernel_rfl) (by kernel_rfl) (fun _ _ _ h => h) (by assumption) (Or.inl ⟨by kernel_rfl, ?_⟩) ?_
  rotate_left
  · intro wz hSw; obtain ⟨h1, h2, h3⟩ := hSw; (first | (go_simp; done) | (go_simp; with_reducible rfl))
  (try simp only [Act.put, List.getElem_toArray, List.getElem_cons_zero, List.getElem_cons_succ, List.setIfInBounds_toArray, List.set_cons_zero, List.set_cons_succ])
  refine held_take (fun _ => trivial) (by kernel_rfl) (i := 11) (oi := _) (v := ?_) rfl (by kernel_rfl) (by kernel_rfl) (by kernel_rfl) (fun _ _ _ h => h) (by assumption) (Or.inl ⟨by kernel_rfl, ?_⟩) ?_
  rotate_left
  · intro wz hSw; obtain ⟨h1, h2, h3⟩ := hSw; (first | (go_simp; done) | (go_simp; with_reducible rfl))
  (try simp only [Act.put, List.getElem_toArray, List.getElem_cons_zero, List.getElem_cons_succ, List.setIfInBounds_toArray, List.set_cons_zero, List.set_cons_succ])
  refine held_done (by kernel_rfl) ?_ _
  clear hHeld hc0 hc1 hc2 C0 C1 C2
  go_wp2_with fail
  refine (wpIn_wide (n := 5)).1 (held_region (F := Fence.wide) (S := fun W => W.cell? ⟨w7.heap.size, 3, none⟩ = some (.int .i64 1) ∧ W.cell? ⟨w7.heap.size, k, none⟩ = some (.int .i64 qk) ∧ MatAt w4.heap.size S W ∧ MatAt w5.heap.size S W ∧ MatAt w6.heap.size I W) (by kernel_rfl) ⟨HC3.out, HCK.out, MS.out, MP.out, MI.out⟩ (fun hHeld => ?_))
  clear hc3 hck
  refine held_take (fun _ => trivial) (by kernel_rfl) (i := 0) (oi := _) (v := ?_) rfl (by kernel_rfl) (by kernel_rfl) (by kernel_rfl) (fun _ _ _ h => h) (by assumption) (Or.inl ⟨by kernel_rfl, ?_⟩) ?_
  rotate_left
  · intro wz hSw; obtain ⟨h1, h2, h3, h4, h5⟩ := hSw; (first | (go_simp; done) | (go_simp; with_reducible rfl))
  (try simp only [Act.put, List.getElem_toArray, List.getElem_cons_zero, List.getElem_cons_succ, List.setIfInBounds_toArray, List.set_cons_zero, List.set_cons_succ])
  refine held_take (fun _ => trivial) (by kernel_rfl) (i := 1) (oi := _) (v := ?_) rfl (by kernel_rfl) (by kernel_rfl) (by kernel_rfl) (fun _ _ _ h => h) (by assumption) (Or.inl ⟨by kernel_rfl, ?_⟩) ?_
  rotate_left
  · intro wz hSw; obtain ⟨h1, h2, h3, h4, h5⟩ := hSw; (first | (go_simp; done) | (go_simp; with_reducible rfl))
  (try simp only [Act.put, List.getElem_toArray, List.getElem_cons_zero, List.getElem_cons_succ, List.setIfInBounds_toArray, List.set_cons_zero, List.set_cons_succ])
  refine held_take (fun _ => trivial) (by kernel_rfl) (i := 2) (oi := _) (v := ?_) rfl (by kernel_rfl) (by kernel_rfl) (by kernel_rfl) (fun _ _ _ h => h) (by assumption) (Or.inl ⟨by kernel_rfl, ?_⟩) ?_
  rotate_left
  · intro wz hSw; obtain ⟨h1, h2, h3, h4, h5⟩ := hSw; (first | (go_simp; done) | (go_simp; with_reducible rfl))
  (try simp only [Act.put, List.getElem_toArray, List.getElem_cons_zero, List.getElem_cons_succ, List.setIfInBounds_toArray, List.set_cons_zero, List.set_cons_succ])
  refine held_take (fun _ => trivial) (by kernel_rfl) (i := 3) (oi := _) (v := ?_) rfl (by kernel_rfl) (by kernel_rfl) (by kernel_rfl) (fun _ _ _ h => h) (by assumption) (Or.inl ⟨by kernel_rfl, ?_⟩) ?_
  rotate_left
  · intro wz hSw; obtain ⟨h1, h2, h3, h4, h5⟩ := hSw; (first | (go_simp; done) | (go_simp; with_reducible rfl))
  (try simp only [Act.put, List.getElem_toArray, List.getElem_cons_zero, List.getElem_cons_succ, List.setIfInBounds_toArray, List.set_cons_zero, List.set_cons_succ])
  refine held_take (fun _ => trivial) (by kernel_rfl) (i := 4) (oi := _) (v := ?_) rfl (by kernel_rfl) (by kernel_rfl) (by kernel_rfl) (fun _ _ _ h => h) (by assumption) (Or.inl ⟨by kernel_rfl, ?_⟩) ?_
  rotate_left
  · intro wz hSw; obtain ⟨h1, h2, h3, h4, h5⟩ := hSw; (first | (go_simp; done) | (go_simp; with_reducible rfl))
  (try simp only [Act.put, List.getElem_toArray, List.getElem_cons_zero, List.getElem_cons_succ, List.setIfInBounds_toArray, List.set_cons_zero, List.set_cons_succ])
  refine held_take (fun _ => trivial) (by kernel_rfl) (i := 5) (oi := _) (v := ?_) rfl (by kernel_rfl) (by kernel_rfl) (by kernel_rfl) (fun _ _ _ h => h) (by assumption) (Or.inl ⟨by kernel_rfl, ?_⟩) ?_
  rotate_left
  · intro wz hSw; obtain ⟨h1, h2, h3, h4, h5⟩ := hSw; (first | (go_simp; done) | (go_simp; with_reducible rfl))
  (try simp only [Act.put, List.getElem_toArray, List.getElem_cons_zero, List.getElem_cons_succ, List.setIfInBounds_toArray, List.set_cons_zero, List.set_cons_succ])
  refine held_take (fun _ => trivial) (by kernel_rfl) (i := 6) (oi := _) (v := ?_) rfl (by kernel_rfl) (by kernel_rfl) (by kernel_rfl) (fun _ _ _ h => h) (by assumption) (Or.inl ⟨by kernel_rfl, ?_⟩) ?_
  rotate_left
  · intro wz hSw; obtain ⟨h1, h2, h3, h4, h5⟩ := hSw; (first | (go_simp; done) | (go_simp; with_reducible rfl))
  (try simp only [Act.put, List.getElem_toArray, List.getElem_cons_zero, List.getElem_cons_succ, List.setIfInBounds_toArray, List.set_cons_zero, List.set_cons_succ])
  refine held_take (fun _ => trivial) (by kernel_rfl) (i := 7) (oi := _) (v := ?_) rfl (by kernel_rfl) (by kernel_rfl) (by kernel_rfl) (fun _ _ _ h => h) (by assumption) (Or.inl ⟨by kernel_rfl, ?_⟩) ?_
  rotate_left
  · intro wz hSw; obtain ⟨h1, h2, h3, h4, h5⟩ := hSw; (first | (go_simp; done) | (go_simp; with_reducible rfl))
  (try simp only [Act.put, List.getElem_toArray, List.getElem_cons_zero, List.getElem_cons_succ, List.setIfInBounds_toArray, List.set_cons_zero, List.set_cons_succ])
  refine held_take (fun _ => trivial) (by kernel_rfl) (i := 8) (oi := _) (v := ?_) rfl (by kernel_rfl) (by kernel_rfl) (by kernel_rfl) (fun _ _ _ h => h) (by assumption) (Or.inl ⟨by kernel_rfl, ?_⟩) ?_
  rotate_left
  · intro wz hSw; obtain ⟨h1, h2, h3, h4, h5⟩ := hSw; (first | (go_simp; done) | (go_simp; with_reducible rfl))
  (try simp only [Act.put, List.getElem_toArray, List.getElem_cons_zero, List.getElem_cons_succ, List.setIfInBounds_toArray, List.set_cons_zero, List.set_cons_succ])
  refine held_take (fun _ => trivial) (by kernel_rfl) (i := 9) (oi := _) (v := ?_) rfl (by kernel_rfl) (by kernel_rfl) (by kernel_rfl) (fun _ _ _ h => h) (by assumption) (Or.inl ⟨by kernel_rfl, ?_⟩) ?_
  rotate_left
  · intro wz hSw; obtain ⟨h1, h2, h3, h4, h5⟩ := hSw; (first | (go_simp; done) | (go_simp; with_reducible rfl))
  (try simp only [Act.put, List.getElem_toArray, List.getElem_cons_zero, List.getElem_cons_succ, List.setIfInBounds_toArray, List.set_cons_zero, List.set_cons_succ])
  refine held_take (fun _ => trivial) (by kernel_rfl) (i := 10) (oi := _) (v := ?_) rfl (by kernel_rfl) (by kernel_rfl) (by kernel_rfl) (fun _ _ _ h => h) (by assumption) (Or.inl ⟨by kernel_rfl, ?_⟩) ?_
  rotate_left
  · intro wz hSw; obtain ⟨h1, h2, h3, h4, h5⟩ := hSw; (first | (go_simp; done) | (go_simp; with_reducible rfl))
  (try simp only [Act.put, List.getElem_toArray, List.getElem_cons_zero, List.getElem_cons_succ, List.setIfInBounds_toArray, List.set_cons_zero, List.set_cons_succ])
  refine held_take (fun _ => trivial) (by kernel_rfl) (i := 11) (oi := _) (v := ?_) rfl (by kernel_rfl) (by kernel_rfl) (by kernel_rfl) (fun _ _ _ h => h) (by assumption) (Or.inl ⟨by kernel_rfl, ?_⟩) ?_
  rotate_left
  · intro wz hSw; obtain ⟨h1, h2, h3, h4, h5⟩ := hSw; (first | (go_simp; done) | (go_simp; with_reducible rfl))
  (try simp only [Act.put, List.getElem_toArray, List.getElem_cons_zero, List.getElem_cons_succ, List.setIfInBounds_toArray, List.set_cons_zero, List.set_cons_succ])
  refine held_take (fun _ => trivial) (by kernel_rfl) (i := 12) (oi := _) (v := ?_) rfl (by kernel_rfl) (by kernel_rfl) (by kernel_rfl) (fun _ _ _ h => h) (by assumption) (Or.inl ⟨by kernel_rfl, ?_⟩) ?_
  rotate_left
  · intro wz hSw; obtain ⟨h1, h2, h3, h4, h5⟩ := hSw; (first | (go_simp; done) | (go_simp; with_reducible rfl))
  (try simp only [Act.put, List.getElem_toArray, List.getElem_cons_zero, List.getElem_cons_succ, List.setIfInBounds_toArray, List.set_cons_zero, List.set_cons_succ])
  refine held_take (fun _ => trivial) (by kernel_rfl) (i := 13) (oi := _) (v := ?_) rfl (by kernel_rfl) (by kernel_rfl) (by kernel_rfl) (fun _ _ _ h => h) (by assumption) (Or.inl ⟨by kernel_rfl, ?_⟩) ?_
  rotate_left
  · intro wz hSw; obtain ⟨h1, h2, h3, h4, h5⟩ := hSw; (first | (go_simp; done) | (go_simp; with_reducible rfl))
  (try simp only [Act.put, List.getElem_toArray, List.getElem_cons_zero, List.getElem_cons_succ, List.setIfInBounds_toArray, List.set_cons_zero, List.set_cons_succ])
  refine held_take (fun _ => trivial) (by kernel_rfl) (i := 14) (oi := _) (v := ?_) rfl (by kernel_rfl) (by kernel_rfl) (by kernel_rfl) (fun _ _ _ h => h) (by assumption) (Or.inl ⟨by kernel_rfl, ?_⟩) ?_
  rotate_left
  · intro wz hSw; obtain ⟨h1, h2, h3, h4, h5⟩ := hSw; (first | (go_simp; done) | (go_simp; with_reducible rfl))
  (try simp only [Act.put, List.getElem_toArray, List.getElem_cons_zero, List.getElem_cons_succ, List.setIfInBounds_toArray, List.set_cons_zero, List.set_cons_succ])
  refine held_take (fun _ => trivial) (by kernel_rfl) (i := 15) (oi := _) (v := ?_) rfl (by kernel_rfl) (by kernel_rfl) (by kernel_rfl) (fun _ _ _ h => h) (by assumption) (Or.inl ⟨by kernel_rfl, ?_⟩) ?_
  rotate_left
  · intro wz hSw; obtain ⟨h1, h2, h3, h4, h5⟩ := hSw; (first | (go_simp; done) | (go_simp; with_reducible rfl))
  (try simp only [Act.put, List.getElem_toArray, List.getElem_cons_zero, List.getElem_cons_succ, List.setIfInBounds_toArray, List.set_cons_zero, List.set_cons_succ])
  refine held_take (fun _ => trivial) (by kernel_rfl) (i := 16) (oi := _) (v := ?_) rfl (by kernel_rfl) (by kernel_rfl) (by kernel_rfl) (fun _ _ _ h => h) (by assumption) (Or.inl ⟨by kernel_rfl, ?_⟩) ?_
  rotate_left
  · intro wz hSw; obtain ⟨h1, h2, h3, h4, h5⟩ := hSw; (first | (go_simp; done) | (go_simp; with_reducible rfl))
  (try simp only [Act.put, List.getElem_toArray, List.getElem_cons_zero, List.getElem_cons_succ, List.setIfInBounds_toArray, List.set_cons_zero, List.set_cons_succ])
  refine held_take (fun _ => trivial) (by kernel_rfl) (i := 17) (oi := _) (v := ?_) rfl (by kernel_rfl) (by kernel_rfl) (by kernel_rfl) (fun _ _ _ h => h) (by assumption) (Or.inl ⟨by kernel_rfl, ?_⟩) ?_
  rotate_left
  · intro wz hSw; obtain ⟨h1, h2, h3, h4, h5⟩ := hSw; (first | (go_simp; done) | (go_simp; with_reducible rfl))
  (try simp only [Act.put, List.getElem_toArray, List.getElem_cons_zero, List.getElem_cons_succ, List.setIfInBounds_toArray, List.set_cons_zero, List.set_cons_succ])
  refine held_take (fun _ => trivial) (by kernel_rfl) (i := 18) (oi := _) (v := ?_) rfl (by kernel_rfl) (by kernel_rfl) (by kernel_rfl) (fun _ _ _ h => h) (by assumption) (Or.inl ⟨by kernel_rfl, ?_⟩) ?_
  rotate_left
  · intro wz hSw; obtain ⟨h1, h2, h3, h4, h5⟩ := hSw; (first | (go_simp; done) | (go_simp; with_reducible rfl))
  (try simp only [Act.put, List.getElem_toArray, List.getElem_cons_zero, List.getElem_cons_succ, List.setIfInBounds_toArray, List.set_cons_zero, List.set_cons_succ])
  refine held_take (fun _ => trivial) (by kernel_rfl) (i := 19) (oi := _) (v := ?_) rfl (by kernel_rfl) (by kernel_rfl) (by kernel_rfl) (fun _ _ _ h => h) (by assumption) (Or.inl ⟨by kernel_rfl, ?_⟩) ?_
  rotate_left
  · intro wz hSw; obtain ⟨h1, h2, h3, h4, h5⟩ := hSw; (first | (go_simp; done) | (go_simp; with_reducible rfl))
  (try simp only [Act.put, List.getElem_toArray, List.getElem_cons_zero, List.getElem_cons_succ, List.setIfInBounds_toArray, List.set_cons_zero, List.set_cons_succ])
  refine held_take (fun _ => trivial) (by kernel_rfl) (i := 20) (oi := _) (v := ?_) rfl (by kernel_rfl) (by kernel_rfl) (by kernel_rfl) (fun _ _ _ h => h) (by assumption) (Or.inl ⟨by kernel_rfl, ?_⟩) ?_
  rotate_left
  · intro wz hSw; obtain ⟨h1, h2, h3, h4, h5⟩ := hSw; (first | (go_simp; done) | (go_simp; with_reducible rfl))
  (try simp only [Act.put, List.getElem_toArray, List.getElem_cons_zero, List.getElem_cons_succ, List.setIfInBounds_toArray, List.set_cons_zero, List.set_cons_succ])
  refine held_take (fun _ => trivial) (by kernel_rfl) (i := 21) (oi := _) (v := ?_) rfl (by kernel_rfl) (by kernel_rfl) (by kernel_rfl) (fun _ _ _ h => h) (by assumption) (Or.inl ⟨by kernel_rfl, ?_⟩) ?_
  rotate_left
  · intro wz hSw; obtain ⟨h1, h2, h3, h4, h5⟩ := hSw; (first | (go_simp; done) | (go_simp; with_reducible rfl))
  (try simp only [Act.put, List.getElem_toArray, List.getElem_cons_zero, List.getElem_cons_succ, List.setIfInBounds_toArray, List.set_cons_zero, List.set_cons_succ])
  refine held_take (fun _ => trivial) (by kernel_rfl) (i := 22) (oi := _) (v := ?_) rfl (by kernel_rfl) (by kernel_rfl) (by kernel_rfl) (fun _ _ _ h => h) (by assumption) (Or.inl ⟨by kernel_rfl, ?_⟩) ?_
  rotate_left
  · intro wz hSw; obtain ⟨h1, h2, h3, h4, h5⟩ := hSw; (first | (go_simp; done) | (go_simp; with_reducible rfl))
  (try simp only [Act.put, List.getElem_toArray, List.getElem_cons_zero, List.getElem_cons_succ, List.setIfInBounds_toArray, List.set_cons_zero, List.set_cons_succ])
  refine held_take (fun _ => trivial) (by kernel_rfl) (i := 23) (oi := _) (v := ?_) rfl (by kernel_rfl) (by kernel_rfl) (by kernel_rfl) (fun _ _ _ h => h) (by assumption) (Or.inl ⟨by kernel_rfl, ?_⟩) ?_
  rotate_left
  · intro wz hSw; obtain ⟨h1, h2, h3, h4, h5⟩ := hSw; (first | (go_simp; done) | (go_simp; with_reducible rfl))
  (try simp only [Act.put, List.getElem_toArray, List.getElem_cons_zero, List.getElem_cons_succ, List.setIfInBounds_toArray, List.set_cons_zero, List.set_cons_succ])
  refine held_take (fun _ => trivial) (by kernel_rfl) (i := 24) (oi := _) (v := ?_) rfl (by kernel_rfl) (by kernel_rfl) (by kernel_rfl) (fun _ _ _ h => h) (by assumption) (Or.inl ⟨by kernel_rfl, ?_⟩) ?_
  rotate_left
  · intro wz hSw; obtain ⟨h1, h2, h3, h4, h5⟩ := hSw; (first | (go_simp; done) | (go_simp; with_reducible rfl))
  (try simp only [Act.put, List.getElem_toArray, List.getElem_cons_zero, List.getElem_cons_succ, List.setIfInBounds_toArray, List.set_cons_zero, List.set_cons_succ])
  refine held_take (fun _ => trivial) (by kernel_rfl) (i := 25) (oi := _) (v := ?_) rfl (by kernel_rfl) (by kernel_rfl) (by kernel_rfl) (fun _ _ _ h => h) (by assumption) (Or.inl ⟨by kernel_rfl, ?_⟩) ?_
  rotate_left
  · intro wz hSw; obtain ⟨h1, h2, h3, h4, h5⟩ := hSw; (first | (go_simp; done) | (go_simp; with_reducible rfl))
  (try simp only [Act.put, List.getElem_toArray, List.getElem_cons_zero, List.getElem_cons_succ, List.setIfInBounds_toArray, List.set_cons_zero, List.set_cons_succ])
  refine held_take (fun _ => trivial) (by kernel_rfl) (i := 26) (oi := _) (v := .agg (mC S)) rfl (by kernel_rfl) (by kernel_rfl) (by kernel_rfl) (fun _ _ _ h => h) (by assumption) (Or.inl ⟨by kernel_rfl, ?_⟩) ?_
  · intro wz hSw; obtain ⟨h1, h2, h3, h4, h5⟩ := hSw; exact exec_load_row 64 (.tmp 21) (by kernel_rfl) w5.heap.size (by kernel_rfl) _ _ _ _ h4 Try.underlying64 (by kernel_rfl) sS.out
  (try simp only [Act.put, List.getElem_toArray, List.getElem_cons_zero, List.getElem_cons_succ, List.setIfInBounds_toArray, List.set_cons_zero, List.set_cons_succ])
  refine held_take (fun _ => trivial) (by kernel_rfl) (i := 27) (oi := _) (v := .agg (mC S)) rfl (by kernel_rfl) (by kernel_rfl) (by kernel_rfl) (fun _ _ _ h => h) (by assumption) (Or.inl ⟨by kernel_rfl, ?_⟩) ?_
  · intro wz hSw; obtain ⟨h1, h2, h3, h4, h5⟩ := hSw; exact exec_load_row 64 (.tmp 19) (by kernel_rfl) w4.heap.size (by kernel_rfl) _ _ _ _ h3 Try.underlying64 (by kernel_rfl) sS.out
  (try simp only [Act.put, List.getElem_toArray, List.getElem_cons_zero, List.getElem_cons_succ, List.setIfInBounds_toArray, List.set_cons_zero, List.set_cons_succ])
  refine held_take (fun _ => trivial) (by kernel_rfl) (i := 28) (oi := _) (v := ?_) rfl (by kernel_rfl) (by kernel_rfl) (by kernel_rfl) (fun _ _ _ h => h) (by assumption) (Or.inl ⟨by kernel_rfl, ?_⟩) ?_
  rotate_left
  · intro wz hSw; obtain ⟨h1, h2, h3, h4, h5⟩ := hSw; (first | (go_simp; done) | (go_simp; with_reducible rfl))
  (try simp only [Act.put, List.getElem_toArray, List.getElem_cons_zero, List.getElem_cons_succ, List.setIfInBounds_toArray, List.set_cons_zero, List.set_cons_succ])
  refine held_take (fun _ => trivial) (by kernel_rfl) (i := 29) (oi := _) (v := ?_) rfl (by kernel_rfl) (by kernel_rfl) (by kernel_rfl) (fun _ _ _ h => h) (by assumption) (Or.inl ⟨by kernel_rfl, ?_⟩) ?_
  rotate_left
  · intro wz hSw; obtain ⟨h1, h2, h3, h4, h5⟩ := hSw; (first | (go_simp; done) | (go_simp; with_reducible rfl))
  (try simp only [Act.put, List.getElem_toArray, List.getElem_cons_zero, List.getElem_cons_succ, List.setIfInBounds_toArray, List.set_cons_zero, List.set_cons_succ])
  refine held_take (fun _ => trivial) (by kernel_rfl) (i := 30) (oi := _) (v := ?_) rfl (by kernel_rfl) (by kernel_rfl) (by kernel_rfl) (fun _ _ _ h => h) (by assumption) (Or.inl ⟨by kernel_rfl, ?_⟩) ?_
  rotate_left
  · intro wz hSw; obtain ⟨h1, h2, h3, h4, h5⟩ := hSw; (first | (go_simp; done) | (go_simp; with_reducible rfl))
  (try simp only [Act.put, List.getElem_toArray, List.getElem_cons_zero, List.getElem_cons_succ, List.setIfInBounds_toArray, List.set_cons_zero, List.set_cons_succ])
  refine held_take (fun _ => trivial) (by kernel_rfl) (i := 31) (oi := _) (v := .agg (mC I)) rfl (by kernel_rfl) (by kernel_rfl) (by kernel_rfl) (fun _ _ _ h => h) (by assumption) (Or.inl ⟨by kernel_rfl, ?_⟩) ?_
  · intro wz hSw; obtain ⟨h1, h2, h3, h4, h5⟩ := hSw; exact exec_load_row 64 (.tmp 23) (by kernel_rfl) w6.heap.size (by kernel_rfl) _ _ _ _ h5 Try.underlying64 (by kernel_rfl) sI.out
  (try simp only [Act.put, List.getElem_toArray, List.getElem_cons_zero, List.getElem_cons_succ, List.setIfInBounds_toArray, List.set_cons_zero, List.set_cons_succ])
  refine held_step (fun _ => trivial) (i := 32) (o := _) (by kernel_rfl) rfl (fun K hK => ?_)
  go_simp
  refine ⟨trivial, callsIn_wide.2 ((cE.out _).mono ?_)⟩
  rintro e w8 ⟨rfl, hb8⟩
  dsimp only
  have hB8 : Below w.heap.size w w8 := by first | exact bnext (Below.drew (Below.drew HB7.out)) hb8 | exact bnext (bnext HB7.out (bdrew0 _ _ 2)) hb8
  have HB8 := Lib.hid hB8
  clear hB8
  refine hK.out _ _ ⟨keep_cell hb8 hHeld.1, keep_cell hb8 hHeld.2.1, MatAt.below hb8 hHeld.2.2.1, MatAt.below hb8 hHeld.2.2.2.1, MatAt.below hb8 hHeld.2.2.2.2⟩ (fun hHeld => ?_)
  clear hK K hb8
  (try simp only [Act.put, List.getElem_toArray, List.getElem_cons_zero, List.getElem_cons_succ, List.setIfInBounds_toArray, List.set_cons_zero, List.set_cons_succ])

  refine held_take (fun _ => trivial) (by kernel_rfl) (i := 33) (oi := _) (v := ?_) rfl (by kernel_rfl) (by kernel_rfl) (by kernel_rfl) (fun _ _ _ h => h) (by assumption) (Or.inl ⟨by kernel_rfl, ?_⟩) ?_
  rotate_left
  · intro wz hSw; obtain ⟨h1, h2, h3, h4, h5⟩ := hSw; (first | (go_simp; done) | (go_simp; with_reducible rfl))
  (try simp only [Act.put, List.getElem_toArray, List.getElem_cons_zero, List.getElem_cons_succ, List.setIfInBounds_toArray, List.set_cons_zero, List.set_cons_succ])
  refine held_take (fun _ => trivial) (by kernel_rfl) (i := 34) (oi := _) (v := ?_) rfl (by kernel_rfl) (by kernel_rfl) (by kernel_rfl) (fun _ _ _ h => h) (by assumption) (Or.inl ⟨by kernel_rfl, ?_⟩) ?_
  rotate_left
  · intro wz hSw; obtain ⟨h1, h2, h3, h4, h5⟩ := hSw; (first | (go_simp; done) | (go_simp; with_reducible rfl))
  (try simp only [Act.put, List.getElem_toArray, List.getElem_cons_zero, List.getElem_cons_succ, List.setIfInBounds_toArray, List.set_cons_zero, List.set_cons_succ])
  refine held_take (fun _ => trivial) (by kernel_rfl) (i := 35) (oi := _) (v := ?_) rfl (by kernel_rfl) (by kernel_rfl) (by kernel_rfl) (fun _ _ _ h => h) (by assumption) (Or.inl ⟨by kernel_rfl, ?_⟩) ?_
  rotate_left
  · intro wz hSw; obtain ⟨h1, h2, h3, h4, h5⟩ := hSw; (first | (go_simp; done) | (go_simp; with_reducible rfl))
  (try simp only [Act.put, List.getElem_toArray, List.getElem_cons_zero, List.getElem_cons_succ, List.setIfInBounds_toArray, List.set_cons_zero, List.set_cons_succ])
  refine held_take (fun _ => trivial) (by kernel_rfl) (i := 36) (oi := _) (v := ?_) rfl (by kernel_rfl) (by kernel_rfl) (by kernel_rfl) (fun _ _ _ h => h) (by assumption) (Or.inl ⟨by kernel_rfl, ?_⟩) ?_
  rotate_left
  · intro wz hSw; obtain ⟨h1, h2, h3, h4, h5⟩ := hSw; (first | (go_simp; done) | (go_simp; with_reducible rfl))
  (try simp only [Act.put, List.getElem_toArray, List.getElem_cons_zero, List.getElem_cons_succ, List.setIfInBounds_toArray, List.set_cons_zero, List.set_cons_succ])
  refine held_take (fun _ => trivial) (by kernel_rfl) (i := 37) (oi := _) (v := ?_) rfl (by kernel_rfl) (by kernel_rfl) (by kernel_rfl) (fun _ _ _ h => h) (by assumption) (Or.inl ⟨by kernel_rfl, ?_⟩) ?_
  rotate_left
  · intro wz hSw; obtain ⟨h1, h2, h3, h4, h5⟩ := hSw; (first | (go_simp; done) | (go_simp; with_reducible rfl))
  (try simp only [Act.put, List.getElem_toArray, List.getElem_cons_zero, List.getElem_cons_succ, List.setIfInBounds_toArray, List.set_cons_zero, List.set_cons_succ])
  refine held_take (fun _ => trivial) (by kernel_rfl) (i := 38) (oi := _) (v := ?_) rfl (by kernel_rfl) (by kernel_rfl) (by kernel_rfl) (fun _ _ _ h => h) (by assumption) (Or.inl ⟨by kernel_rfl, ?_⟩) ?_
  rotate_left
  · intro wz hSw; obtain ⟨h1, h2, h3, h4, h5⟩ := hSw; (first | (go_simp; done) | (go_simp; with_reducible rfl))
  (try simp only [Act.put, List.getElem_toArray, List.getElem_cons_zero, List.getElem_cons_succ, List.setIfInBounds_toArray, List.set_cons_zero, List.set_cons_succ])
  refine held_take (fun _ => trivial) (by kernel_rfl) (i := 40) (oi := _) (v := ?_) rfl (by kernel_rfl) (by kernel_rfl) (by kernel_rfl) (fun _ _ _ h => h) (by assumption) (Or.inl ⟨by kernel_rfl, ?_⟩) ?_
  rotate_left
  · intro wz hSw; obtain ⟨h1, h2, h3, h4, h5⟩ := hSw; (first | (go_simp; done) | (go_simp; with_reducible rfl))
  (try simp only [Act.put, List.getElem_toArray, List.getElem_cons_zero, List.getElem_cons_succ, List.setIfInBounds_toArray, List.set_cons_zero, List.set_cons_succ])
  refine held_take (fun _ => trivial) (by kernel_rfl) (i := 41) (oi := _) (v := ?_) rfl (by kernel_rfl) (by kernel_rfl) (by kernel_rfl) (fun _ _ _ h => h) (by assumption) (Or.inl ⟨by kernel_rfl, ?_⟩) ?_
  rotate_left
  · intro wz hSw; obtain ⟨h1, h2, h3, h4, h5⟩ := hSw; (first | (go_simp; done) | (go_simp; with_reducible rfl))
  (try simp only [Act.put, List.getElem_toArray, List.getElem_cons_zero, List.getElem_cons_succ, List.setIfInBounds_toArray, List.set_cons_zero, List.set_cons_succ])
  refine held_take (fun _ => trivial) (by kernel_rfl) (i := 44) (oi := _) (v := ?_) rfl (by kernel_rfl) (by kernel_rfl) (by kernel_rfl) (fun _ _ _ h => h) (by assumption) (Or.inl ⟨by kernel_rfl, ?_⟩) ?_
  rotate_left
  · intro wz hSw; obtain ⟨h1, h2, h3, h4, h5⟩ := hSw; (first | (go_simp; done) | (go_simp; with_reducible rfl))
  (try simp only [Act.put, List.getElem_toArray, List.getElem_cons_zero, List.getElem_cons_succ, List.setIfInBounds_toArray, List.set_cons_zero, List.set_cons_succ])
  refine held_take (fun _ => trivial) (by kernel_rfl) (i := 45) (oi := _) (v := ?_) rfl (by kernel_rfl) (by kernel_rfl) (by kernel_rfl) (fun _ _ _ h => h) (by assumption) (Or.inl ⟨by kernel_rfl, ?_⟩) ?_
  rotate_left
  · intro wz hSw; obtain ⟨h1, h2, h3, h4, h5⟩ := hSw; (first | (go_simp; done) | (go_simp; with_reducible rfl))
  (try simp only [Act.put, List.getElem_toArray, List.getElem_cons_zero, List.getElem_cons_succ, List.setIfInBounds_toArray, List.set_cons_zero, List.set_cons_succ])
  refine held_step (fun _ => trivial) (i := 39) (o := _) (by kernel_rfl) rfl (fun K hK => ?_)
  go_simp
  refine ⟨trivial, callsIn_wide.2 ((C3.out _).mono ?_)⟩
  rintro e wz ⟨rfl, rfl⟩
  dsimp only
  refine hK.out _ _ hHeld (fun hHeld => ?_)
  clear hK K
  (try simp only [Act.put, List.getElem_toArray, List.getElem_cons_zero, List.getElem_cons_succ, List.setIfInBounds_toArray, List.set_cons_zero, List.set_cons_succ])

  refine held_step (fun _ => trivial) (i := 42) (o := _) (by kernel_rfl) rfl (fun K hK => ?_)
  go_simp
  refine ⟨trivial, callsIn_wide.2 ((C4.out _).mono ?_)⟩
  rintro e wz ⟨rfl, rfl⟩
  dsimp only
  refine hK.out _ _ hHeld (fun hHeld => ?_)
  clear hK K
  (try simp only [Act.put, List.getElem_toArray, List.getElem_cons_zero, List.getElem_cons_succ, List.setIfInBounds_toArray, List.set_cons_zero, List.set_cons_succ])

  refine held_take (fun _ => trivial) (by kernel_rfl) (i := 43) (oi := _) (v := ?_) rfl (by kernel_rfl) (by kernel_rfl) (by kernel_rfl) (fun _ _ _ h => h) (by assumption) (Or.inl ⟨by kernel_rfl, ?_⟩) ?_
  rotate_left
  · intro wz hSw; obtain ⟨h1, h2, h3, h4, h5⟩ := hSw; (first | (go_simp; done) | (go_simp; with_reducible rfl))
  (try simp only [Act.put, List.getElem_toArray, List.getElem_cons_zero, List.getElem_cons_succ, List.setIfInBounds_toArray, List.set_cons_zero, List.set_cons_succ])
  refine held_step (fun _ => trivial) (i := 46) (o := _) (by kernel_rfl) rfl (fun K hK => ?_)
  go_simp
  refine ⟨trivial, callsIn_wide.2 ((C5.out _).mono ?_)⟩
  rintro e wz ⟨rfl, rfl⟩
  dsimp only
  refine hK.out _ _ hHeld (fun hHeld => ?_)
  clear hK K
  (try simp only [Act.put, List.getElem_toArray, List.getElem_cons_zero, List.getElem_cons_succ, List.setIfInBounds_toArray, List.set_cons_zero, List.set_cons_succ])

  refine held_take (fun _ => trivial) (by kernel_rfl) (i := 47) (oi := _) (v := ?_) rfl (by kernel_rfl) (by kernel_rfl) (by kernel_rfl) (fun _ _ _ h => h) (by assumption) (Or.inl ⟨by kernel_rfl, ?_⟩) ?_
  rotate_left
  · intro wz hSw; obtain ⟨h1, h2, h3, h4, h5⟩ := hSw; (first | (go_simp; done) | (go_simp; with_reducible rfl))
  (try simp only [Act.put, List.getElem_toArray, List.getElem_cons_zero, List.getElem_cons_succ, List.setIfInBounds_toArray, List.set_cons_zero, List.set_cons_succ])
  refine held_take (fun _ => trivial) (by kernel_rfl) (i := 48) (oi := _) (v := ?_) rfl (by kernel_rfl) (by kernel_rfl) (by kernel_rfl) (fun _ _ _ h => h) (by assumption) (Or.inl ⟨by kernel_rfl, ?_⟩) ?_
  rotate_left
  · intro wz hSw; obtain ⟨h1, h2, h3, h4, h5⟩ := hSw; (first | (go_simp; done) | (go_simp; with_reducible rfl))
  (try simp only [Act.put, List.getElem_toArray, List.getElem_cons_zero, List.getElem_cons_succ, List.setIfInBounds_toArray, List.set_cons_zero, List.set_cons_succ])
  refine held_take (fun _ => trivial) (by kernel_rfl) (i := 49) (oi := _) (v := ?_) rfl (by kernel_rfl) (by kernel_rfl) (by kernel_rfl) (fun _ _ _ h => h) (by assumption) (Or.inl ⟨by kernel_rfl, ?_⟩) ?_
  rotate_left
  · intro wz hSw; obtain ⟨h1, h2, h3, h4, h5⟩ := hSw; (first | (go_simp; done) | (go_simp; with_reducible rfl))
  (try simp only [Act.put, List.getElem_toArray, List.getElem_cons_zero, List.getElem_cons_succ, List.setIfInBounds_toArray, List.set_cons_zero, List.set_cons_succ])
  refine held_take (fun _ => trivial) (by kernel_rfl) (i := 50) (oi := _) (v := ?_) rfl (by kernel_rfl) (by kernel_rfl) (by kernel_rfl) (fun _ _ _ h => h) (by assumption) (Or.inl ⟨by kernel_rfl, ?_⟩) ?_
  rotate_left
  · intro wz hSw; obtain ⟨h1, h2, h3, h4, h5⟩ := hSw; (first | (go_simp; done) | (go_simp; with_reducible rfl))
  (try simp only [Act.put, List.getElem_toArray, List.getElem_cons_zero, List.getElem_cons_succ, List.setIfInBounds_toArray, List.set_cons_zero, List.set_cons_succ])
  refine held_take (fun _ => trivial) (by kernel_rfl) (i := 51) (oi := _) (v := ?_) rfl (by kernel_rfl) (by kernel_rfl) (by kernel_rfl) (fun _ _ _ h => h) (by assumption) (Or.inl ⟨by kernel_rfl, ?_⟩) ?_
  rotate_left
  · intro wz hSw; obtain ⟨h1, h2, h3, h4, h5⟩ := hSw; (first | (go_simp; done) | (go_simp; with_reducible rfl))
  (try simp only [Act.put, List.getElem_toArray, List.getElem_cons_zero, List.getElem_cons_succ, List.setIfInBounds_toArray, List.set_cons_zero, List.set_cons_succ])
  refine held_take (fun _ => trivial) (by kernel_rfl) (i := 52) (oi := _) (v := ?_) rfl (by kernel_rfl) (by kernel_rfl) (by kernel_rfl) (fun _ _ _ h => h) (by assumption) (Or.inl ⟨by kernel_rfl, ?_⟩) ?_
  rotate_left
  · intro wz hSw; obtain ⟨h1, h2, h3, h4, h5⟩ := hSw; (first | (go_simp; done) | (go_simp; with_reducible rfl))
  (try simp only [Act.put, List.getElem_toArray, List.getElem_cons_zero, List.getElem_cons_succ, List.setIfInBounds_toArray, List.set_cons_zero, List.set_cons_succ])
  refine held_take (fun _ => trivial) (by kernel_rfl) (i := 53) (oi := _) (v := ?_) rfl (by kernel_rfl) (by kernel_rfl) (by kernel_rfl) (fun _ _ _ h => h) (by assumption) (Or.inl ⟨by kernel_rfl, ?_⟩) ?_
  rotate_left
  · intro wz hSw; obtain ⟨h1, h2, h3, h4, h5⟩ := hSw; (first | (go_simp; done) | (go_simp; with_reducible rfl))
  (try simp only [Act.put, List.getElem_toArray, List.getElem_cons_zero, List.getElem_cons_succ, List.setIfInBounds_toArray, List.set_cons_zero, List.set_cons_succ])
  refine held_take (fun _ => trivial) (by kernel_rfl) (i := 54) (oi := _) (v := ?_) rfl (by kernel_rfl) (by kernel_rfl) (by kernel_rfl) (fun _ _ _ h => h) (by assumption) (Or.inl ⟨by kernel_rfl, ?_⟩) ?_
  rotate_left
  · intro wz hSw; obtain ⟨h1, h2, h3, h4, h5⟩ := hSw; (first | (go_simp; done) | (go_simp; with_reducible rfl))
  (try simp only [Act.put, List.getElem_toArray, List.getElem_cons_zero, List.getElem_cons_succ, List.setIfInBounds_toArray, List.set_cons_zero, List.set_cons_succ])
  refine held_take (fun _ => trivial) (by kernel_rfl) (i := 55) (oi := _) (v := ?_) rfl (by kernel_rfl) (by kernel_rfl) (by kernel_rfl) (fun _ _ _ h => h) (by assumption) (Or.inl ⟨by kernel_rfl, ?_⟩) ?_
  rotate_left
  · intro wz hSw; obtain ⟨h1, h2, h3, h4, h5⟩ := hSw; (first | (go_simp; done) | (go_simp; with_reducible rfl))
  (try simp only [Act.put, List.getElem_toArray, List.getElem_cons_zero, List.getElem_cons_succ, List.setIfInBounds_toArray, List.set_cons_zero, List.set_cons_succ])
  refine held_take (fun _ => trivial) (by kernel_rfl) (i := 56) (oi := _) (v := ?_) rfl (by kernel_rfl) (by kernel_rfl) (by kernel_rfl) (fun _ _ _ h => h) (by assumption) (Or.inl ⟨by kernel_rfl, ?_⟩) ?_
  rotate_left
  · intro wz hSw; obtain ⟨h1, h2, h3, h4, h5⟩ := hSw; (first | (go_simp; done) | (go_simp; with_reducible rfl))
  (try simp only [Act.put, List.getElem_toArray, List.getElem_cons_zero, List.getElem_cons_succ, List.setIfInBounds_toArray, List.set_cons_zero, List.set_cons_succ])
  refine held_take (fun _ => trivial) (by kernel_rfl) (i := 57) (oi := _) (v := ?_) rfl (by kernel_rfl) (by kernel_rfl) (by kernel_rfl) (fun _ _ _ h => h) (by assumption) (Or.inl ⟨by kernel_rfl, ?_⟩) ?_
  rotate_left
  · intro wz hSw; obtain ⟨h1, h2, h3, h4, h5⟩ := hSw; (first | (go_simp; done) | (go_simp; with_reducible rfl))
  (try simp only [Act.put, List.getElem_toArray, List.getElem_cons_zero, List.getElem_cons_succ, List.setIfInBounds_toArray, List.set_cons_zero, List.set_cons_succ])
  refine held_take (fun _ => trivial) (by kernel_rfl) (i := 58) (oi := _) (v := ?_) rfl (by kernel_rfl) (by kernel_rfl) (by kernel_rfl) (fun _ _ _ h => h) (by assumption) (Or.inl ⟨by kernel_rfl, ?_⟩) ?_
  rotate_left
  · intro wz hSw; obtain ⟨h1, h2, h3, h4, h5⟩ := hSw; (first | (go_simp; done) | (go_simp; with_reducible rfl))
  (try simp only [Act.put, List.getElem_toArray, List.getElem_cons_zero, List.getElem_cons_succ, List.setIfInBounds_toArray, List.set_cons_zero, List.set_cons_succ])
  refine held_take (fun _ => trivial) (by kernel_rfl) (i := 59) (oi := _) (v := ?_) rfl (by kernel_rfl) (by kernel_rfl) (by kernel_rfl) (fun _ _ _ h => h) (by assumption) (Or.inl ⟨by kernel_rfl, ?_⟩) ?_
  rotate_left
  · intro wz hSw; obtain ⟨h1, h2, h3, h4, h5⟩ := hSw; (first | (go_simp; done) | (go_simp; with_reducible rfl))
  (try simp only [Act.put, List.getElem_toArray, List.getElem_cons_zero, List.getElem_cons_succ, List.setIfInBounds_toArray, List.set_cons_zero, List.set_cons_succ])
  refine held_take (fun _ => trivial) (by kernel_rfl) (i := 60) (oi := _) (v := ?_) rfl (by kernel_rfl) (by kernel_rfl) (by kernel_rfl) (fun _ _ _ h => h) (by assumption) (Or.inl ⟨by kernel_rfl, ?_⟩) ?_
  rotate_left
  · intro wz hSw; obtain ⟨h1, h2, h3, h4, h5⟩ := hSw; (first | (go_simp; done) | (go_simp; with_reducible rfl))
  (try simp only [Act.put, List.getElem_toArray, List.getElem_cons_zero, List.getElem_cons_succ, List.setIfInBounds_toArray, List.set_cons_zero, List.set_cons_succ])
  refine held_take (fun _ => trivial) (by kernel_rfl) (i := 61) (oi := _) (v := ?_) rfl (by kernel_rfl) (by kernel_rfl) (by kernel_rfl) (fun _ _ _ h => h) (by assumption) (Or.inl ⟨by kernel_rfl, ?_⟩) ?_
  rotate_left
  · intro wz hSw; obtain ⟨h1, h2, h3, h4, h5⟩ := hSw; (first | (go_simp; done) | (go_simp; with_reducible rfl))
  (try simp only [Act.put, List.getElem_toArray, List.getElem_cons_zero, List.getElem_cons_succ, List.setIfInBounds_toArray, List.set_cons_zero, List.set_cons_succ])
  refine held_take (fun _ => trivial) (by kernel_rfl) (i := 62) (oi := _) (v := ?_) rfl (by kernel_rfl) (by kernel_rfl) (by kernel_rfl) (fun _ _ _ h => h) (by assumption) (Or.inl ⟨by kernel_rfl, ?_⟩) ?_
  rotate_left
  · intro wz hSw; obtain ⟨h1, h2, h3, h4, h5⟩ := hSw; (first | (go_simp; done) | (go_simp; with_reducible rfl))
  (try simp only [Act.put, List.getElem_toArray, List.getElem_cons_zero, List.getElem_cons_succ, List.setIfInBounds_toArray, List.set_cons_zero, List.set_cons_succ])
  refine held_take (fun _ => trivial) (by kernel_rfl) (i := 63) (oi := _) (v := ?_) rfl (by kernel_rfl) (by kernel_rfl) (by kernel_rfl) (fun _ _ _ h => h) (by assumption) (Or.inl ⟨by kernel_rfl, ?_⟩) ?_
  rotate_left
  · intro wz hSw; obtain ⟨h1, h2, h3, h4, h5⟩ := hSw; (first | (go_simp; done) | (go_simp; with_reducible rfl))
  (try simp only [Act.put, List.getElem_toArray, List.getElem_cons_zero, List.getElem_cons_succ, List.setIfInBounds_toArray, List.set_cons_zero, List.set_cons_succ])
  refine held_take (fun _ => trivial) (by kernel_rfl) (i := 64) (oi := _) (v := ?_) rfl (by kernel_rfl) (by kernel_rfl) (by kernel_rfl) (fun _ _ _ h => h) (by assumption) (Or.inl ⟨by kernel_rfl, ?_⟩) ?_
  rotate_left
  · intro wz hSw; obtain ⟨h1, h2, h3, h4, h5⟩ := hSw; (first | (go_simp; done) | (go_simp; with_reducible rfl))
  (try simp only [Act.put, List.getElem_toArray, List.getElem_cons_zero, List.getElem_cons_succ, List.setIfInBounds_toArray, List.set_cons_zero, List.set_cons_succ])
  refine held_take (fun _ => trivial) (by kernel_rfl) (i := 65) (oi := _) (v := ?_) rfl (by kernel_rfl) (by kernel_rfl) (by kernel_rfl) (fun _ _ _ h => h) (by assumption) (Or.inl ⟨by kernel_rfl, ?_⟩) ?_
  rotate_left
  · intro wz hSw; obtain ⟨h1, h2, h3, h4, h5⟩ := hSw; (first | (go_simp; done) | (go_simp; with_reducible rfl))
  (try simp only [Act.put, List.getElem_toArray, List.getElem_cons_zero, List.getElem_cons_succ, List.setIfInBounds_toArray, List.set_cons_zero, List.set_cons_succ])
  refine held_take (fun _ => trivial) (by kernel_rfl) (i := 66) (oi := _) (v := ?_) rfl (by kernel_rfl) (by kernel_rfl) (by kernel_rfl) (fun _ _ _ h => h) (by assumption) (Or.inl ⟨by kernel_rfl, ?_⟩) ?_
  rotate_left
  · intro wz hSw; obtain ⟨h1, h2, h3, h4, h5⟩ := hSw; (first | (go_simp; done) | (go_simp; with_reducible rfl))
  (try simp only [Act.put, List.getElem_toArray, List.getElem_cons_zero, List.getElem_cons_succ, List.setIfInBounds_toArray, List.set_cons_zero, List.set_cons_succ])
  refine held_take (fun _ => trivial) (by kernel_rfl) (i := 67) (oi := _) (v := ?_) rfl (by kernel_rfl) (by kernel_rfl) (by kernel_rfl) (fun _ _ _ h => h) (by assumption) (Or.inl ⟨by kernel_rfl, ?_⟩) ?_
  rotate_left
  · intro wz hSw; obtain ⟨h1, h2, h3, h4, h5⟩ := hSw; (first | (go_simp; done) | (go_simp; with_reducible rfl))
  (try simp only [Act.put, List.getElem_toArray, List.getElem_cons_zero, List.getElem_cons_succ, List.setIfInBounds_toArray, List.set_cons_zero, List.set_cons_succ])
  refine held_take (fun _ => trivial) (by kernel_rfl) (i := 68) (oi := _) (v := ?_) rfl (by kernel_rfl) (by kernel_rfl) (by kernel_rfl) (fun _ _ _ h => h) (by assumption) (Or.inl ⟨by kernel_rfl, ?_⟩) ?_
  rotate_left
  · intro wz hSw; obtain ⟨h1, h2, h3, h4, h5⟩ := hSw; (first | (go_simp; done) | (go_simp; with_reducible rfl))
  (try simp only [Act.put, List.getElem_toArray, List.getElem_cons_zero, List.getElem_cons_succ, List.setIfInBounds_toArray, List.set_cons_zero, List.set_cons_succ])
  refine held_take (fun _ => trivial) (by kernel_rfl) (i := 69) (oi := _) (v := ?_) rfl (by kernel_rfl) (by kernel_rfl) (by kernel_rfl) (fun _ _ _ h => h) (by assumption) (Or.inl ⟨by kernel_rfl, ?_⟩) ?_
  rotate_left
  · intro wz hSw; obtain ⟨h1, h2, h3, h4, h5⟩ := hSw; (first | (go_simp; done) | (go_simp; with_reducible rfl))
  (try simp only [Act.put, List.getElem_toArray, List.getElem_cons_zero, List.getElem_cons_succ, List.setIfInBounds_toArray, List.set_cons_zero, List.set_cons_succ])
  refine held_take (fun _ => trivial) (by kernel_rfl) (i := 70) (oi := _) (v := ?_) rfl (by kernel_rfl) (by kernel_rfl) (by kernel_rfl) (fun _ _ _ h => h) (by assumption) (Or.inl ⟨by kernel_rfl, ?_⟩) ?_
  rotate_left
  · intro wz hSw; obtain ⟨h1, h2, h3, h4, h5⟩ := hSw; (first | (go_simp; done) | (go_simp; with_reducible rfl))
  (try simp only [Act.put, List.getElem_toArray, List.getElem_cons_zero, List.getElem_cons_succ, List.setIfInBounds_toArray, List.set_cons_zero, List.set_cons_succ])
  simp only [Act.put, List.append_eq, List.cons_append, List.nil_append, List.getElem_toArray, List.getElem_cons_zero, List.getElem_cons_succ, List.setIfInBounds_toArray, List.set_cons_zero, List.set_cons_succ]
  refine held_done (by kernel_rfl) ?_ _
  clear hHeld
  go_wp2_with fail
  first
  | (refine bodyPost_ret (results_tmp rfl _ _ _) rfl ⟨rfl, HB8.out⟩; done)
  | (go_ret; exact ⟨rfl, HB8.out⟩)
  | (refine bodyPost_ret (v := .bool true) (by first | simp [results, Try.results10, go_sem]) rfl ⟨rfl, HB8.out⟩)
theorem bounds_u8' {a : Int} (h : (Lit.int .u8 a).wf = true) : 0 ≤ a ∧ a ≤ 255 := by
  have := h
  simp [Lit.wf, IntKind.min, IntKind.max, IntKind.bits, IntKind.signed] at this
  omega
theorem bounds_i32' {a : Int} (h : (Lit.int .i32 a).wf = true) : -2147483648 ≤ a ∧ a ≤ 2147483647 := by
  have := h
  simp [Lit.wf, IntKind.min, IntKind.max, IntKind.bits, IntKind.signed] at this
  omega
theorem law_matrixTurns (a0 : Int) (w0 : (Lit.int .u8 a0).wf = true) (a1 : Int) (w1 : (Lit.int .u8 a1).wf = true) (a2 : Int) (w2 : (Lit.int .u8 a2).wf = true)
    (a3 : Int) (w3 : (Lit.int .i32 a3).wf = true) (a4 : Int) (w4' : (Lit.int .i32 a4).wf = true) (a5 : Int) (w5 : (Lit.int .i32 a5).wf = true) (w : World) :
    Calls Try.prog 10 #[.int .u8 a0, .int .u8 a1, .int .u8 a2, .int .i32 a3, .int .i32 a4, .int .i32 a5] w fun e w' => e = .returned (.bool true) ∧ Below w.heap.size w w' := by
  have v0 := bounds_u8' w0
  have v1 := bounds_u8' w1
  have v2 := bounds_u8' w2
  have v3 := bounds_i32' w3
  have v4 := bounds_i32' w4'
  have v5 := bounds_i32' w5
  have ht : a0.tmod 3 = a0 % 3 := Int.tmod_eq_emod_of_nonneg v0.1
  obtain ⟨k, hk⟩ : ∃ k : Nat, a0 % 3 = (k : Int) := ⟨(a0 % 3).toNat, by omega⟩
  obtain ⟨ra, hra⟩ : ∃ k : Nat, a1 % 4 = (k : Int) := ⟨(a1 % 4).toNat, by omega⟩
  obtain ⟨rb, hrb⟩ : ∃ k : Nat, (-a2) % 4 = (k : Int) := ⟨((-a2) % 4).toNat, by omega⟩
  have k3 : k < 3 := by omega
  have ra4 : ra < 4 := by omega
  have rb4 : rb < 4 := by omega
  have ti : trn k 0 = idl := by
    have hd : k = 0 ∨ k = 1 ∨ k = 2 := by omega
    rcases hd with rfl | rfl | rfl <;> rfl
  obtain ⟨q0, q1, q2, hap, hs, hi⟩ := ap_turn k ra k3 ra4 a3 a4 a5 (by omega) (by omega) (by omega)
  have hmm := mul_turn k ra rb k3 ra4 rb4
  have sz : ∀ m : List Int, m.length = 16 → (Try.prog.info? 64).map (·.size) = some (mC m).size := fun m h => by rw [size16, mC_size, h]
  have zz : ∀ m : List Int, m.length = 16 → 16 = (mC m).size := fun m h => by rw [mC_size, h]
  refine walk_turns a0 a1 a2 a3 a4 a5 k (trn k ra) (trn k rb) (trn k ((ra + rb) % 4)) idl q0 q1 q2 w k3 v1 v2 v0 v3 v4 v5 (Lib.hid (sz _ (trn_len _ _))) (Lib.hid (zz _ (trn_len _ _))) (Lib.hid (sz _ (trn_len _ _))) (Lib.hid (zz _ (trn_len _ _)))
    (Lib.hid (sz _ (trn_len _ _))) (Lib.hid (zz _ (trn_len _ _))) (Lib.hid (sz _ rfl)) (Lib.hid (zz _ rfl)) (ht.trans hk) (Lib.hid ?_) (Lib.hid ?_) (Lib.hid ?_) (Lib.hid ?_) (Lib.hid ?_) (Lib.hid ?_) (Lib.hid ?_) (Lib.hid hs) (Lib.hid hi)
  · exact fun w => turn_any k a1 ra k3 ra4 hra w
  · exact fun w => turn_any k (-a2) rb k3 rb4 hrb w
  · exact fun w => turn_any k (a1 - a2) ((ra + rb) % 4) k3 (by omega) (by omega) w
  · intro w
    have h := turn_any k (4 * a1) 0 k3 (by omega) (by omega) w
    rw [ti] at h
    exact h
  · intro w
    have h := mmul_any (trn k ra) (trn k rb) w (trn_len _ _) (trn_len _ _)
    rw [hmm] at h
    exact h
  · intro w
    have h := apply_any (trn k ra) [a3, a4, a5, 1] w (trn_len _ _) rfl
    rw [hap] at h
    exact h
  · exact fun w => identity_any w
end Go.Proofs.Ytjeolpgmhgfahaa.Fx
