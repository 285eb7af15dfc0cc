/- The document's quotients: their answers; numbers held against one another. -/
import Derived.Test.YtgkcbadfjhicnaaProg
import Derived.Test.YtgkcbadfjhicnaaD2
import Derived.Test.YtgkcbadfjhicnaaW6a
import Derived.Laws.StructEq
set_option linter.unusedVariables false
set_option linter.unusedSimpArgs false
namespace Go.Proofs.Ytgkcbadfjhicnaa.Fx
open Go Go.RowKit Wm
theorem big_part (n : Bool) (d : List Nat) (hd : d.length = 20) : (bigC n d).extract 1 (1 + 20) = (d.map encN).toArray := by
  unfold bigC
  rw [List.extract_toArray, List.extract_eq_take_drop]
  congr 1
  rw [List.drop_one, List.tail_cons]
  exact List.take_of_length_le (by rw [List.length_map, hd]; omega)
theorem eqFields_step {P : Program} {w : World} {d : Nat} {xs ys : Array Value} {f : Field} {fs : List Field} (hn : f.name ≠ "_") {a b : Value} {r : Bool} (ha : (part f.type xs f.offset).run P w = .ok a w) (hb : (part f.type ys f.offset).run P w = .ok b w) (hr : (Op.equalIn d f.type a b).run P w = .ok r w) :
    (Op.eqFields d xs ys (f :: fs)).run P w = if r = true then (Op.eqFields d xs ys fs).run P w else .ok false w := by
  rw [Op.eqFields, if_pos hn]
  simp only [Sem.run_bind, ha, hb, hr, Result.andThen_ok]
  cases r <;> simp
theorem big_p0 (w : World) (n : Bool) (d : List Nat) : (part 4 (bigC n d) 0).run Try.prog w = .ok (.bool n) w := by
  have hb := Try.underlying4
  simp [part, isAgg, run_underlying hb, bigC]
theorem big_p1 (w : World) (n : Bool) (d : List Nat) (hd : d.length = 20) : (part 25 (bigC n d) 1).run Try.prog w = .ok (.agg (d.map encN).toArray) w := by
  have ha := Try.underlying25
  have hsz := Try.sizeOf25
  rw [← big_part n d hd]
  simp only [part, isAgg, run_underlying ha, hsz, Sem.run_bind, Result.andThen_ok, Sem.run_pure, if_true]
theorem eqIn_big (w : World) (k : Nat) (nx ny : Bool) (dx dy : List Nat) (hx : dx.length = 20) (hy : dy.length = 20) :
    (Op.equalIn (k + 3) 27 (.agg (bigC nx dx)) (.agg (bigC ny dy))).run Try.prog w = .ok (nx == ny && dx == dy) w := by
  have hf := Try.underlying27
  have pe : (Op.equalIn (k + 2) 4 (.bool nx) (.bool ny)).run Try.prog w = .ok (nx == ny) w := run_equalIn_bool' (P := Try.prog) w (k + 1) 4 nx ny Try.underlying4
  have pd : (Op.equalIn (k + 2) 25 (.agg (dx.map encN).toArray) (.agg (dy.map encN).toArray)).run Try.prog w = .ok (dx == dy) w := eqIn_nats w k dx dy hx hy
  refine (run_equalIn_struct w (k + 2) _ _ _ (by kernel_rfl) (by kernel_rfl)).trans ?_
  simp only [Program.fieldsOf, hf]
  have h1 := eqFields_step (P := Try.prog) (w := w) (d := k + 2) (xs := bigC nx dx) (ys := bigC ny dy) (f := { name := "Neg", type := 4, offset := 0, embedded := false, tag := "", pkgPath := "", byteOffset := 0 }) (fs := [{ name := "D", type := 25, offset := 1, embedded := false, tag := "", pkgPath := "", byteOffset := 8 }]) (by decide) (a := .bool nx) (b := .bool ny) (r := (nx == ny)) (big_p0 w nx dx) (big_p0 w ny dy) pe
  refine h1.trans ?_
  have h2 : (Op.eqFields (k + 2) (bigC nx dx) (bigC ny dy) [{ name := "D", type := 25, offset := 1, embedded := false, tag := "", pkgPath := "", byteOffset := 8 }]).run Try.prog w = .ok (dx == dy) w := by
    have h3 := eqFields_step (P := Try.prog) (w := w) (d := k + 2) (xs := bigC nx dx) (ys := bigC ny dy) (f := { name := "D", type := 25, offset := 1, embedded := false, tag := "", pkgPath := "", byteOffset := 8 }) (fs := []) (by decide) (a := .agg (dx.map encN).toArray) (b := .agg (dy.map encN).toArray) (r := (dx == dy)) (big_p1 w nx dx hx) (big_p1 w ny dy hy) pd
    refine h3.trans ?_
    cases (dx == dy)
    · rw [if_neg (by decide)]
    · rw [if_pos rfl, Op.eqFields, Sem.run_pure]
  rw [h2]
  cases (nx == ny)
  · rw [if_neg (by decide), Bool.false_and]
  · rw [if_pos rfl, Bool.true_and]
theorem eq_big (z : Int) (w : World) : (binOp .eql 27 (.agg (bv z)) (.agg (bv z))).run Try.prog w = .ok (.bool true) w := by
  rw [run_eql_struct]
  unfold bv
  rw [eqIn_big w 9997 _ _ _ _ (dg_len _) (dg_len _), beq_self_eq_true, beq_self_eq_true, Result.andThen_ok, Bool.and_self]
theorem ne_big (z : Int) (w : World) : (binOp .neq 27 (.agg (bv z)) (.agg (bv z))).run Try.prog w = .ok (.bool false) w := by
  rw [run_neq_struct]
  unfold bv
  rw [eqIn_big w 9997 _ _ _ _ (dg_len _) (dg_len _), beq_self_eq_true, beq_self_eq_true, Result.andThen_ok, Bool.and_self, Bool.not_true]
theorem zdiv_z (x c : Int) (w : World) (hx : x.natAbs < 65536 ^ 9) (hc : c ≠ 0) (hcn : c.natAbs < 65536 ^ 9) :
    Calls Try.prog 26 #[.agg (bv x), .agg (bv c)] w fun e w' => e = .returned (.tuple #[.agg (bv (dv x c)), .agg (bv (rs x c)), .int .i64 0]) ∧ Below w.heap.size w w' := by
  have e9 : (65536 : Nat) ^ 9 = 2 ^ 144 := by decide
  have e144 : (2 : Nat) ^ 144 = 22300745198530623141535718272648361505980416 := by decide
  have eB : BB / 4 = 533996758980227520598755426542388028650676130589163192486760401955554931445160137505740521734144 := by decide
  have eB1 : BB = 2135987035920910082395021706169552114602704522356652769947041607822219725780640550022962086936576 := by decide
  rw [e9, e144] at hx hcn
  have hn : 0 < c.natAbs := by omega
  have hqm : x.natAbs / c.natAbs ≤ x.natAbs := Nat.div_le_self _ _
  have hsame : decide (x < 0) = decide (c < 0) → dv x c = ((x.natAbs / c.natAbs : Nat) : Int) := fun h => (dv_like hc (decide_eq_decide.1 h)).1
  have hd0 : decide (x < 0) ≠ decide (c < 0) → x.natAbs % c.natAbs = 0 → dv x c = -((x.natAbs / c.natAbs : Nat) : Int) := fun h g => ((dv_unlike hc fun e => h (decide_eq_decide.2 e)).1 g).1
  have hd1 : decide (x < 0) ≠ decide (c < 0) → x.natAbs % c.natAbs ≠ 0 → dv x c = -((x.natAbs / c.natAbs + 1 : Nat) : Int) := fun h g => ((dv_unlike hc fun e => h (decide_eq_decide.2 e)).2 g).1
  have hq1 : x.natAbs % c.natAbs ≠ 0 → x.natAbs / c.natAbs + 1 ≤ x.natAbs := by
    intro hr
    have h2 : 2 ≤ c.natAbs := by
      rcases Nat.lt_or_ge c.natAbs 2 with h | h
      · exfalso
        have : c.natAbs = 1 := by omega
        rw [this, Nat.mod_one] at hr
        exact hr rfl
      · exact h
    have h3 : x.natAbs / c.natAbs ≤ x.natAbs / 2 := Nat.div_le_div_left h2 (by omega)
    have h4 : x.natAbs ≠ 0 := by
      intro h0
      rw [h0, Nat.zero_mod] at hr
      exact hr rfl
    have h5 : x.natAbs = 1 → x.natAbs / c.natAbs = 0 := fun h => by rw [h]; exact Nat.div_eq_of_lt (by omega)
    omega
  have hQ : (dv x c).natAbs ≤ x.natAbs := by
    by_cases hs : decide (x < 0) = decide (c < 0)
    · rw [hsame hs, Int.natAbs_natCast]
      exact hqm
    · by_cases hr : x.natAbs % c.natAbs = 0
      · rw [hd0 hs hr, Int.natAbs_neg, Int.natAbs_natCast]
        exact hqm
      · rw [hd1 hs hr, Int.natAbs_neg, Int.natAbs_natCast]
        exact hq1 hr
  have hP : (dv x c * c).natAbs < 2 ^ 144 * 2 ^ 144 := by
    rw [Int.natAbs_mul]
    exact Nat.mul_lt_mul'' (by rw [e144]; omega) (by rw [e144]; omega)
  have e288 : (2 : Nat) ^ 144 * 2 ^ 144 = 497323236409786642155382248146820840100456150797347717440463976893159497012533375533056 := by decide
  rw [e288] at hP
  refine zdiv_walk x c x.natAbs c.natAbs (dv x c) (dv x c * c) (-(dv x c * c)) (rs x c) w (Lib.hid hn) (Lib.hid (by rw [e144]; exact hx)) (Lib.hid rfl) (Lib.hid rfl) (Lib.hid (by rw [eB]; omega)) (Lib.hid hsame) (Lib.hid hd0) (Lib.hid hd1) (Lib.hid (by rw [eB]; omega))
    (Lib.hid fun w => none_z c false w (by rw [eB1]; omega) (decide_eq_false hc)) (Lib.hid fun w => mul_z _ _ w (by rw [e9, e144]; omega) (by rw [e9, e144]; omega)) (Lib.hid fun w => neg_z _ w (by rw [eB1]; omega)) (Lib.hid fun w => ?_)
  have := add_z x (-(dv x c * c)) w (by rw [eB1]; omega)
  rw [show x + -(dv x c * c) = rs x c from rfl] at this
  exact this
set_option maxRecDepth 100000 in
set_option maxHeartbeats 4000000 in
theorem zdiv_zero (x : Int) (w : World) (cE : Hid (Ans 46 #[.agg (bv 0)] (.bool true))) :
    Calls Try.prog 26 #[.agg (bv x), .agg (bv 0)] w fun e w' => e = .returned (.tuple #[.agg (bv 0), .agg (bv 0), .int .i64 21]) ∧ Below w.heap.size w w' := by
  have h4 := block4 w (.cells (bv x) 27) (.cells (bv 0) 27) (.cells (bv 0) 27) (.cells (bv 0) 27)
  have HC : Hid (BigAt (w.heap.size + 1) 0 ((((w.alloc (.cells (bv x) 27)).alloc (.cells (bv 0) 27)).alloc (.cells (bv 0) 27)).alloc (.cells (bv 0) 27))) := Lib.hid h4.1.2
  have H1 : Hid (BigAt (w.heap.size + 1 + 1) 0 ((((w.alloc (.cells (bv x) 27)).alloc (.cells (bv 0) 27)).alloc (.cells (bv 0) 27)).alloc (.cells (bv 0) 27))) := Lib.hid h4.2.1
  have H2 : Hid (BigAt (w.heap.size + 1 + 1 + 1) 0 ((((w.alloc (.cells (bv x) 27)).alloc (.cells (bv 0) 27)).alloc (.cells (bv 0) 27)).alloc (.cells (bv 0) 27))) := Lib.hid h4.2.2
  have HB : Hid (Below w.heap.size w ((((w.alloc (.cells (bv x) 27)).alloc (.cells (bv 0) 27)).alloc (.cells (bv 0) 27)).alloc (.cells (bv 0) 27))) := Lib.hid (by go_grown)
  clear h4
  go_enter Try.func26, Try.ntmps26
  go_wp2_with (refine wpList_load_row rfl 27 (.tmp 3) rfl (w.heap.size + 1) rfl _ _ _ _ HC.out Try.underlying27 rfl (bv_info _) ?_)
  refine (cE.out _).mono ?_
  rintro e w1 ⟨rfl, hb1⟩
  have HBn := Lib.hid (bnext HB.out hb1)
  have R1 := Lib.hid (BigAt.below hb1 H1.out)
  have R2 := Lib.hid (BigAt.below hb1 H2.out)
  have R3 := Lib.hid (BigAt.other (k := w.heap.size + 1 + 1) R2.out (by omega) (bv 0))
  clear hb1 HC H1 H2 HB
  go_wp2_with (first | (refine wpList_build_to rfl 27 #[] rfl (bv 0) (by kernel_rfl) ?_) | (refine wpList_store_big rfl 27 (.tmp 4) (.tmp 15) rfl (w.heap.size + 1 + 1) _ _ (bv 0) rfl rfl R1.out (bv_info _) (bv_same _ _) (bv_one _) ?_) | (refine wpList_store_big rfl 27 (.tmp 5) (.tmp 16) rfl (w.heap.size + 1 + 1 + 1) _ _ (bv 0) rfl rfl R3.out (bv_info _) (bv_same _ _) (bv_one _) ?_))
  (try simp only [Exit.inBlock, Exit.then])
  refine bodyPost_ret (v := .tuple #[.agg (bv 0), .agg (bv 0), .int .i64 21]) (results_rows2 rfl _ _ (w.heap.size + 1 + 1) (w.heap.size + 1 + 1 + 1) _ _ _ _ _ _ _ _ _ rfl (BigAt.other (k := w.heap.size + 1 + 1 + 1) (BigAt.row R1.out 0) (by omega) (bv 0)) Try.underlying27 rfl (bv_info _) rfl (BigAt.row R3.out 0) Try.underlying27 rfl (bv_info _) rfl) rfl ?_
  exact ⟨rfl, Below.row (Below.row HBn.out (by omega) _) (by omega) _⟩
theorem zdiv_0 (x : Int) (w : World) : Calls Try.prog 26 #[.agg (bv x), .agg (bv 0)] w fun e w' => e = .returned (.tuple #[.agg (bv 0), .agg (bv 0), .int .i64 21]) ∧ Below w.heap.size w w' :=
  zdiv_zero x w (Lib.hid fun w => none_z 0 true w (by decide) (by decide))
end Go.Proofs.Ytgkcbadfjhicnaa.Fx
