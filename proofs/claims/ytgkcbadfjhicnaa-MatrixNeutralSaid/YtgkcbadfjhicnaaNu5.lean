/- MatrixNeutral, walked. -/
import Derived.Test.YtgkcbadfjhicnaaProg
import Derived.Test.YtgkcbadfjhicnaaNu
import Derived.Test.YtgkcbadfjhicnaaNe
import Derived.Test.YtgkcbadfjhicnaaNa
import Derived.Test.YtgkcbadfjhicnaaLd
import Derived.Test.YtgkcbadfjhicnaaBb
import Derived.Test.YtgkcbadfjhicnaaR4
set_option linter.unusedVariables false
set_option linter.unusedSimpArgs false
namespace Go.Proofs.Ytgkcbadfjhicnaa.Fx
open Go Go.RowKit Go.Shelf Wm
set_option maxRecDepth 100000 in
set_option maxHeartbeats 4000000 in
theorem neutral_5 (A B I C D Z : List Int) (v0 v1 v2 v3 : Int) (w : World)
    (sA : Hid ((Try.prog.info? 64).map (·.size) = some (mC A).size)) (zA : Hid (16 = (mC A).size))
    (sB : Hid ((Try.prog.info? 64).map (·.size) = some (mC B).size)) (zB : Hid (16 = (mC B).size))
    (sI : Hid ((Try.prog.info? 64).map (·.size) = some (mC I).size)) (zI : Hid (16 = (mC I).size))
    (sC : Hid ((Try.prog.info? 64).map (·.size) = some (mC C).size)) (zC : Hid (16 = (mC C).size))
    (sD : Hid ((Try.prog.info? 64).map (·.size) = some (mC D).size)) (zD : Hid (16 = (mC D).size))
    (sZ : Hid ((Try.prog.info? 64).map (·.size) = some (mC Z).size)) (zZ : Hid (16 = (mC Z).size))
    (cI : Hid (Ans 41 #[] (.agg (mC I))))
    (c1 : Hid (Ans 33 #[.agg (mC A), .agg (mC I)] (.tuple #[.agg (mC Z), .int .i64 30])))
    (c2 : Hid (Ans 33 #[.agg (mC I), .agg (mC A)] (.tuple #[.agg (mC Z), .int .i64 30])))
    (c3 : Hid (Ans 33 #[.agg (mC A), .agg (mC B)] (.tuple #[.agg (mC Z), .int .i64 30])))
    (cA : Hid (Ans 44 #[.agg (mC A)] (.agg (mC C))))
    (cB : Hid (Ans 44 #[.agg (mC B)] (.agg (mC D))))
    (c4 : Hid (Ans 33 #[.agg (mC D), .agg (mC C)] (.tuple #[.agg (mC Z), .int .i64 30])))
    (cC : Hid (Ans 37 #[.agg (mC A), .int .i64 4611686018427387904] (.int .i64 30)))
    : Calls Try.prog 8 #[.agg (mC A), .agg (mC B), .agg #[.int .i64 v0, .int .i64 v1, .int .i64 v2, .int .i64 v3]] w fun e w' => e = .returned (.bool true) ∧ Below w.heap.size w w' := by
  go_enter Try.func8, Try.ntmps8
  go_wp2_with fail
  refine (alive_ok _).mono ?_
  rintro e w1 ⟨rfl, hb1⟩
  have h3 := block3s w (.cells (mC A) 64) (.cells (mC B) 64) (.cells #[.int .i64 v0, .int .i64 v1, .int .i64 v2, .int .i64 v3] 62)
  have rA : MatAt (w.heap.size) A w1 := MatAt.below hb1 h3.1
  have rB : MatAt (w.heap.size + 1) B w1 := MatAt.below hb1 h3.2.1
  have rV : VecAt (w.heap.size + 1 + 1) v0 v1 v2 v3 w1 := keep_row hb1 h3.2.2
  have hsz := hb1.size
  simp only [World.size_alloc] at hsz
  have hB1 : Below w.heap.size w w1 := (by go_grown : Below w.heap.size w _).trans (hb1.mono (by simp; omega))
  have hS1 := hB1.size
  clear h3 hb1 hsz
  go_wp2_with fail
  refine (cI.out _).mono ?_
  rintro e w2 ⟨rfl, hb2⟩
  have hB2 : Below w.heap.size w w2 := bnext hB1 hb2
  have hS2 := hB2.size
  replace rA : MatAt (w.heap.size) A w2 := MatAt.below hb2 rA
  replace rB : MatAt (w.heap.size + 1) B w2 := MatAt.below hb2 rB
  replace rV : VecAt (w.heap.size + 1 + 1) v0 v1 v2 v3 w2 := VecAt.below hb2 rV
  clear hb2 hB1 hS1
  have RA := Lib.hid (show MatAt (w.heap.size) A (w2.alloc (.cells (mC I) 64)) from step_row rA)
  have RI := Lib.hid (show MatAt w2.heap.size I (w2.alloc (.cells (mC I) 64)) from heap_alloc_new _ _)
  replace rB : MatAt (w.heap.size + 1) B (w2.alloc (.cells (mC I) 64)) := step_row rB
  replace rV : VecAt (w.heap.size + 1 + 1) v0 v1 v2 v3 (w2.alloc (.cells (mC I) 64)) := step_row rV
  clear rA
  go_wp2_with (first | (refine wpList_store_new rfl 64 (.tmp 8) (.tmp 21) rfl w2.heap.size _ _ (mC I) rfl rfl rfl sI.out zI.out (mC_one _) ?_) | (refine wpList_load_row rfl 64 (.tmp 3) rfl (w.heap.size) rfl _ _ _ _ RA.out Try.underlying64 rfl sA.out ?_) | (refine wpList_load_row rfl 64 (.tmp 8) rfl w2.heap.size rfl _ _ _ _ RI.out Try.underlying64 rfl sI.out ?_))
  refine (c1.out _).mono ?_
  rintro e w3 ⟨rfl, hb3⟩
  have hB3 : Below w.heap.size w w3 := bnext (hB2.alloc hB2.size _) hb3
  have hS3 := hB3.size
  have rA : MatAt (w.heap.size) A w3 := MatAt.below hb3 RA.out
  have rI : MatAt w2.heap.size I w3 := MatAt.below hb3 RI.out
  replace rB : MatAt (w.heap.size + 1) B w3 := MatAt.below hb3 rB
  replace rV : VecAt (w.heap.size + 1 + 1) v0 v1 v2 v3 w3 := VecAt.below hb3 rV
  clear hb3 RA RI
  have RA := Lib.hid (show MatAt (w.heap.size) A (w3.alloc (.cells (mC Z) 64)) from step_row rA)
  have RI := Lib.hid (show MatAt w2.heap.size I (w3.alloc (.cells (mC Z) 64)) from step_row rI)
  have rX : MatAt w3.heap.size Z (w3.alloc (.cells (mC Z) 64)) := heap_alloc_new _ _
  replace rB : MatAt (w.heap.size + 1) B (w3.alloc (.cells (mC Z) 64)) := step_row rB
  replace rV : VecAt (w.heap.size + 1 + 1) v0 v1 v2 v3 (w3.alloc (.cells (mC Z) 64)) := step_row rV
  clear rA rI
  go_wp2_with (first | (refine wpList_store_new rfl 64 (.tmp 9) (.tmp 26) rfl w3.heap.size _ _ (mC Z) rfl rfl rfl sZ.out zZ.out (mC_one _) ?_) | (refine wpList_load_row rfl 64 (.tmp 3) rfl (w.heap.size) rfl _ _ _ _ RA.out Try.underlying64 rfl sA.out ?_) | (refine wpList_load_row rfl 64 (.tmp 8) rfl w2.heap.size rfl _ _ _ _ RI.out Try.underlying64 rfl sI.out ?_))
  refine (c2.out _).mono ?_
  rintro e w4 ⟨rfl, hb4⟩
  have hB4 : Below w.heap.size w w4 := bnext (hB3.alloc hB3.size _) hb4
  have hS4 := hB4.size
  have rA : MatAt (w.heap.size) A w4 := MatAt.below hb4 RA.out
  have rI : MatAt w2.heap.size I w4 := MatAt.below hb4 RI.out
  replace rX : MatAt w3.heap.size Z w4 := MatAt.below hb4 rX
  replace rB : MatAt (w.heap.size + 1) B w4 := MatAt.below hb4 rB
  replace rV : VecAt (w.heap.size + 1 + 1) v0 v1 v2 v3 w4 := VecAt.below hb4 rV
  clear hb4 RA RI
  have RA := Lib.hid (show MatAt (w.heap.size) A (w4.alloc (.cells (mC Z) 64)) from step_row rA)
  have RB := Lib.hid (show MatAt (w.heap.size + 1) B (w4.alloc (.cells (mC Z) 64)) from step_row rB)
  have rY : MatAt w4.heap.size Z (w4.alloc (.cells (mC Z) 64)) := heap_alloc_new _ _
  replace rI : MatAt w2.heap.size I (w4.alloc (.cells (mC Z) 64)) := step_row rI
  replace rX : MatAt w3.heap.size Z (w4.alloc (.cells (mC Z) 64)) := step_row rX
  replace rV : VecAt (w.heap.size + 1 + 1) v0 v1 v2 v3 (w4.alloc (.cells (mC Z) 64)) := step_row rV
  clear rA rB
  go_wp2_with (first | (refine wpList_store_new rfl 64 (.tmp 11) (.tmp 32) rfl w4.heap.size _ _ (mC Z) rfl rfl rfl sZ.out zZ.out (mC_one _) ?_) | (refine wpList_load_row rfl 64 (.tmp 3) rfl (w.heap.size) rfl _ _ _ _ RA.out Try.underlying64 rfl sA.out ?_) | (refine wpList_load_row rfl 64 (.tmp 4) rfl (w.heap.size + 1) rfl _ _ _ _ RB.out Try.underlying64 rfl sB.out ?_))
  refine (c3.out _).mono ?_
  rintro e w5 ⟨rfl, hb5⟩
  have hB5 : Below w.heap.size w w5 := bnext (hB4.alloc hB4.size _) hb5
  have hS5 := hB5.size
  have rA : MatAt (w.heap.size) A (w5.alloc (.cells (mC Z) 64)) := step_row (MatAt.below hb5 RA.out)
  have rB : MatAt (w.heap.size + 1) B (w5.alloc (.cells (mC Z) 64)) := step_row (MatAt.below hb5 RB.out)
  have rP : MatAt w5.heap.size Z (w5.alloc (.cells (mC Z) 64)) := heap_alloc_new _ _
  replace rI : MatAt w2.heap.size I (w5.alloc (.cells (mC Z) 64)) := step_row (MatAt.below hb5 rI)
  replace rX : MatAt w3.heap.size Z (w5.alloc (.cells (mC Z) 64)) := step_row (MatAt.below hb5 rX)
  replace rY : MatAt w4.heap.size Z (w5.alloc (.cells (mC Z) 64)) := step_row (MatAt.below hb5 rY)
  replace rV : VecAt (w.heap.size + 1 + 1) v0 v1 v2 v3 (w5.alloc (.cells (mC Z) 64)) := step_row (VecAt.below hb5 rV)
  have hBV : Below w.heap.size w (w5.alloc (.cells (mC Z) 64)) := hB5.alloc hB5.size _
  clear hb5 RA RB
  have tok : True := trivial
  go_wp2_with (have _t := tok; (refine wpList_store_new rfl 64 (.tmp 13) (.tmp 38) rfl w5.heap.size _ _ (mC Z) rfl rfl rfl sZ.out zZ.out (mC_one _) ?_); clear tok; generalize (w5.alloc (.cells (mC Z) 64)) = V at rA rB rP rI rX rY rV hBV ⊢)
  have HA := Lib.hid rA
  have HB := Lib.hid rB
  have HV := Lib.hid rV
  have HBV := Lib.hid hBV
  have HP := Lib.hid rP
  have HI := Lib.hid rI
  have HX := Lib.hid rX
  have HY := Lib.hid rY
  clear rA rB rV hBV rP rI rX rY hB2 hB3 hB4 hB5 hS2 hS3 hS4 hS5
  rename_i KK hKK
  have hneq : ∀ W, (binOp .neq 64 (.agg (mC Z)) (.agg (mC Z))).run Try.prog W = .ok (.bool false) W := fun W => neq_mat W Z (by have := zZ.out; rw [mC_size] at this; exact this.symm)
  have HT : ∀ (Bq : Nat) (Wf : World), MatAt Bq Z Wf → Below V.heap.size V Wf → KK { tmps := #[.agg (mC A), .agg (mC B), .agg #[.int .i64 v0, .int .i64 v1, .int .i64 v2, .int .i64 v3], .pointer (some ⟨w.heap.size, 0, none⟩), .pointer (some ⟨w.heap.size + 1, 0, none⟩), .pointer (some ⟨w.heap.size + 1 + 1, 0, none⟩), .bool false, .bool true, .pointer (some ⟨w2.heap.size, 0, none⟩), .pointer (some ⟨w3.heap.size, 0, none⟩), .int .i64 30, .pointer (some ⟨w4.heap.size, 0, none⟩), .int .i64 30, .pointer (some ⟨w5.heap.size, 0, none⟩), .int .i64 30, .pointer (some ⟨Bq, 0, none⟩), .int .i64 30, undef, undef, undef, .bool true, .agg (mC I), .tuple #[.agg (mC Z), .int .i64 30], .agg (mC A), .agg (mC I), .tuple #[.agg (mC Z), .int .i64 30], .agg (mC Z), .int .i64 30, .tuple #[.agg (mC Z), .int .i64 30], .agg (mC I), .agg (mC A), .tuple #[.agg (mC Z), .int .i64 30], .agg (mC Z), .int .i64 30, .tuple #[.agg (mC Z), .int .i64 30], .agg (mC A), .agg (mC B), .tuple #[.agg (mC Z), .int .i64 30], .agg (mC Z), .int .i64 30, .tuple #[.agg (mC Z), .int .i64 30], .agg (mC B), .agg (mC D), .agg (mC A), .agg (mC C), .tuple #[.agg (mC Z), .int .i64 30], .agg (mC Z), .int .i64 30, undef, undef, undef, undef, undef, undef, undef, undef, undef, undef, undef, undef, undef, undef, undef, undef, undef, undef, undef, undef, undef, undef, undef, undef, undef, undef, undef, undef, undef, undef, undef, undef, undef, undef, undef, undef, undef, undef, undef, undef, undef, undef, undef, undef, undef, undef, undef, undef, undef, undef, undef, undef, undef, undef, undef, undef, undef, undef, undef, undef, undef, undef, undef, undef, undef, undef, undef, undef, undef], defers := [] } Wf := by
    intro Bq Wf hq hb
    refine hKK _ _ ?_
    have HA2 := Lib.hid (MatAt.below hb HA.out)
    have HV2 := Lib.hid (VecAt.below hb HV.out)
    have HP2 := Lib.hid (MatAt.below hb HP.out)
    have HI2 := Lib.hid (MatAt.below hb HI.out)
    have HX2 := Lib.hid (MatAt.below hb HX.out)
    have HY2 := Lib.hid (MatAt.below hb HY.out)
    have HQ2 := Lib.hid hq
    have HB2 := Lib.hid (bnext HBV.out hb)
    clear hKK hq hb HA HB HV HBV HP HI HX HY
    go_wp2_with fail
    refine (wpIn_wide (n := 5)).1 (held_region (F := Fence.wide) (S := fun X => Below Wf.heap.size Wf X) (by kernel_rfl) (bdrew0 _ _ 1) (fun hHeld => ?_))
    refine held_take (fun _ => trivial) (by kernel_rfl) (i := 0) (oi := _) (v := ?_) rfl (by kernel_rfl) (by kernel_rfl) (by kernel_rfl) (fun _ _ _ h => h) (by assumption) (Or.inl ⟨by kernel_rfl, ?_⟩) ?_
    rotate_left
    · intro wz hSw; (first | (go_simp; done) | (go_simp; with_reducible rfl))
    (try simp only [Act.put, List.getElem_toArray, List.getElem_cons_zero, List.getElem_cons_succ, List.setIfInBounds_toArray, List.set_cons_zero, List.set_cons_succ])
    refine held_take (fun _ => trivial) (by kernel_rfl) (i := 1) (oi := _) (v := ?_) rfl (by kernel_rfl) (by kernel_rfl) (by kernel_rfl) (fun _ _ _ h => h) (by assumption) (Or.inl ⟨by kernel_rfl, ?_⟩) ?_
    rotate_left
    · intro wz hSw; (first | (go_simp; done) | (go_simp; with_reducible rfl))
    (try simp only [Act.put, List.getElem_toArray, List.getElem_cons_zero, List.getElem_cons_succ, List.setIfInBounds_toArray, List.set_cons_zero, List.set_cons_succ])
    refine held_take (fun _ => trivial) (by kernel_rfl) (i := 2) (oi := _) (v := ?_) rfl (by kernel_rfl) (by kernel_rfl) (by kernel_rfl) (fun _ _ _ h => h) (by assumption) (Or.inl ⟨by kernel_rfl, ?_⟩) ?_
    rotate_left
    · intro wz hSw; (first | (go_simp; done) | (go_simp; with_reducible rfl))
    (try simp only [Act.put, List.getElem_toArray, List.getElem_cons_zero, List.getElem_cons_succ, List.setIfInBounds_toArray, List.set_cons_zero, List.set_cons_succ])
    refine held_take (fun _ => trivial) (by kernel_rfl) (i := 3) (oi := _) (v := ?_) rfl (by kernel_rfl) (by kernel_rfl) (by kernel_rfl) (fun _ _ _ h => h) (by assumption) (Or.inl ⟨by kernel_rfl, ?_⟩) ?_
    rotate_left
    · intro wz hSw; (first | (go_simp; done) | (go_simp; with_reducible rfl))
    (try simp only [Act.put, List.getElem_toArray, List.getElem_cons_zero, List.getElem_cons_succ, List.setIfInBounds_toArray, List.set_cons_zero, List.set_cons_succ])
    refine held_take (fun _ => trivial) (by kernel_rfl) (i := 4) (oi := _) (v := ?_) rfl (by kernel_rfl) (by kernel_rfl) (by kernel_rfl) (fun _ _ _ h => h) (by assumption) (Or.inl ⟨by kernel_rfl, ?_⟩) ?_
    rotate_left
    · intro wz hSw; (first | (go_simp; done) | (go_simp; with_reducible rfl))
    (try simp only [Act.put, List.getElem_toArray, List.getElem_cons_zero, List.getElem_cons_succ, List.setIfInBounds_toArray, List.set_cons_zero, List.set_cons_succ])
    refine held_take (fun _ => trivial) (by kernel_rfl) (i := 5) (oi := _) (v := ?_) rfl (by kernel_rfl) (by kernel_rfl) (by kernel_rfl) (fun _ _ _ h => h) (by assumption) (Or.inl ⟨by kernel_rfl, ?_⟩) ?_
    rotate_left
    · intro wz hSw; (first | (go_simp; done) | (go_simp; with_reducible rfl))
    (try simp only [Act.put, List.getElem_toArray, List.getElem_cons_zero, List.getElem_cons_succ, List.setIfInBounds_toArray, List.set_cons_zero, List.set_cons_succ])
    refine held_take (fun _ => trivial) (by kernel_rfl) (i := 6) (oi := _) (v := ?_) rfl (by kernel_rfl) (by kernel_rfl) (by kernel_rfl) (fun _ _ _ h => h) (by assumption) (Or.inl ⟨by kernel_rfl, ?_⟩) ?_
    rotate_left
    · intro wz hSw; (first | (go_simp; done) | (go_simp; with_reducible rfl))
    (try simp only [Act.put, List.getElem_toArray, List.getElem_cons_zero, List.getElem_cons_succ, List.setIfInBounds_toArray, List.set_cons_zero, List.set_cons_succ])
    refine held_take (fun _ => trivial) (by kernel_rfl) (i := 7) (oi := _) (v := undef) rfl (by kernel_rfl) (by kernel_rfl) (by kernel_rfl) (fun _ _ _ h => h) (by assumption) (Or.inr ⟨by kernel_rfl, rfl⟩) ?_
    (try simp only [Act.put, List.getElem_toArray, List.getElem_cons_zero, List.getElem_cons_succ, List.setIfInBounds_toArray, List.set_cons_zero, List.set_cons_succ])
    refine held_take (fun _ => trivial) (by kernel_rfl) (i := 9) (oi := _) (v := undef) rfl (by kernel_rfl) (by kernel_rfl) (by kernel_rfl) (fun _ _ _ h => h) (by assumption) (Or.inr ⟨by kernel_rfl, rfl⟩) ?_
    (try simp only [Act.put, List.getElem_toArray, List.getElem_cons_zero, List.getElem_cons_succ, List.setIfInBounds_toArray, List.set_cons_zero, List.set_cons_succ])
    refine held_step (fun _ => trivial) (i := 8) (o := _) (by kernel_rfl) rfl (fun K hK => ?_)
    go_simp
    refine hK.out _ _ (hHeld) (fun hHeld => ?_)
    clear hK K
    (try simp only [Act.put, List.getElem_toArray, List.getElem_cons_zero, List.getElem_cons_succ, List.setIfInBounds_toArray, List.set_cons_zero, List.set_cons_succ])
    refine held_take (fun _ => trivial) (by kernel_rfl) (i := 10) (oi := _) (v := undef) rfl (by kernel_rfl) (by kernel_rfl) (by kernel_rfl) (fun _ _ _ h => h) (by assumption) (Or.inr ⟨by kernel_rfl, rfl⟩) ?_
    (try simp only [Act.put, List.getElem_toArray, List.getElem_cons_zero, List.getElem_cons_succ, List.setIfInBounds_toArray, List.set_cons_zero, List.set_cons_succ])
    refine held_take (fun _ => trivial) (by kernel_rfl) (i := 11) (oi := _) (v := ?_) rfl (by kernel_rfl) (by kernel_rfl) (by kernel_rfl) (fun _ _ _ h => h) (by assumption) (Or.inl ⟨by kernel_rfl, ?_⟩) ?_
    rotate_left
    · intro wz hSw; (first | (go_simp; done) | (go_simp; with_reducible rfl))
    (try simp only [Act.put, List.getElem_toArray, List.getElem_cons_zero, List.getElem_cons_succ, List.setIfInBounds_toArray, List.set_cons_zero, List.set_cons_succ])
    refine held_take (fun _ => trivial) (by kernel_rfl) (i := 12) (oi := _) (v := ?_) rfl (by kernel_rfl) (by kernel_rfl) (by kernel_rfl) (fun _ _ _ h => h) (by assumption) (Or.inl ⟨by kernel_rfl, ?_⟩) ?_
    rotate_left
    · intro wz hSw; (first | (go_simp; done) | (go_simp; with_reducible rfl))
    (try simp only [Act.put, List.getElem_toArray, List.getElem_cons_zero, List.getElem_cons_succ, List.setIfInBounds_toArray, List.set_cons_zero, List.set_cons_succ])
    refine held_done (by kernel_rfl) ?_ _
    have HBh := Lib.hid (bnext HB2.out hHeld)
    have HA3 := Lib.hid (MatAt.below hHeld HA2.out)
    have HV3 := Lib.hid (VecAt.below hHeld HV2.out)
    have HI3 := Lib.hid (MatAt.below hHeld HI2.out)
    have HX3 := Lib.hid (MatAt.below hHeld HX2.out)
    have HY3 := Lib.hid (MatAt.below hHeld HY2.out)
    clear hHeld HA2 HV2 HI2 HX2 HY2 HP2 HQ2 HB2
    go_wp2_with (refine wpList_load_row rfl 64 (.tmp 3) rfl (w.heap.size) rfl _ _ _ _ HA3.out Try.underlying64 rfl sA.out ?_)
    refine (cC.out _).mono ?_
    rintro e w7 ⟨rfl, hb7⟩
    have HB7 := Lib.hid (bnext HBh.out hb7)
    have HA7 := Lib.hid (MatAt.below hb7 HA3.out)
    have HV7 := Lib.hid (VecAt.below hb7 HV3.out)
    have HI7 := Lib.hid (MatAt.below hb7 HI3.out)
    have HX7 := Lib.hid (MatAt.below hb7 HX3.out)
    have HY7 := Lib.hid (MatAt.below hb7 HY3.out)
    clear hb7 HA3 HV3 HI3 HX3 HY3 HBh
    go_wp2_with fail
    go_ret
    exact ⟨rfl, HB7.out⟩
  refine (wpIn_wide (n := 5)).1 (held_region (F := Fence.wide) (S := fun X => Below V.heap.size V X) (by kernel_rfl) (bdrew0 _ _ 1) (fun hHeld => ?_))
  refine held_take (fun _ => trivial) (by kernel_rfl) (i := 0) (oi := _) (v := .agg (mC B)) rfl (by kernel_rfl) (by kernel_rfl) (by kernel_rfl) (fun _ _ _ h => h) (by assumption) (Or.inl ⟨by kernel_rfl, ?_⟩) ?_
  · intro wz hSw; exact exec_load_row 64 (.tmp 4) (by kernel_rfl) (w.heap.size + 1) (by kernel_rfl) _ _ _ _ (MatAt.below hSw HB.out) Try.underlying64 (by kernel_rfl) sB.out
  (try simp only [Act.put, List.getElem_toArray, List.getElem_cons_zero, List.getElem_cons_succ, List.setIfInBounds_toArray, List.set_cons_zero, List.set_cons_succ])
  refine held_take (fun _ => trivial) (by kernel_rfl) (i := 2) (oi := _) (v := .agg (mC A)) rfl (by kernel_rfl) (by kernel_rfl) (by kernel_rfl) (fun _ _ _ h => h) (by assumption) (Or.inl ⟨by kernel_rfl, ?_⟩) ?_
  · intro wz hSw; exact exec_load_row 64 (.tmp 3) (by kernel_rfl) (w.heap.size) (by kernel_rfl) _ _ _ _ (MatAt.below hSw HA.out) Try.underlying64 (by kernel_rfl) sA.out
  (try simp only [Act.put, List.getElem_toArray, List.getElem_cons_zero, List.getElem_cons_succ, List.setIfInBounds_toArray, List.set_cons_zero, List.set_cons_succ])
  refine held_step2 (fun _ => trivial) (i := 1) (j := 8) (o := _) (o2 := _) (by kernel_rfl) rfl rfl (fun K hK => ?_) (fun K hK => ?_)
  · go_simp
    refine ⟨trivial, callsIn_wide.2 ((cB.out _).mono ?_)⟩
    rintro e x1 ⟨rfl, hb1⟩
    dsimp only
    refine hK.out _ _ (bnext hHeld hb1) (fun hHeld => ?_)
    clear hK K
    (try simp only [Act.put, List.getElem_toArray, List.getElem_cons_zero, List.getElem_cons_succ, List.setIfInBounds_toArray, List.set_cons_zero, List.set_cons_succ])
    refine held_step2 (fun _ => trivial) (i := 3) (j := 8) (o := _) (o2 := _) (by kernel_rfl) rfl rfl (fun K hK => ?_) (fun K hK => ?_)
    · go_simp
      refine ⟨trivial, callsIn_wide.2 ((cA.out _).mono ?_)⟩
      rintro e x2 ⟨rfl, hb2⟩
      dsimp only
      refine hK.out _ _ (bnext hHeld hb2) (fun hHeld => ?_)
      clear hK K
      (try simp only [Act.put, List.getElem_toArray, List.getElem_cons_zero, List.getElem_cons_succ, List.setIfInBounds_toArray, List.set_cons_zero, List.set_cons_succ])
      refine held_step2 (fun _ => trivial) (i := 4) (j := 8) (o := _) (o2 := _) (by kernel_rfl) rfl rfl (fun K hK => ?_) (fun K hK => ?_)
      · go_simp
        refine ⟨trivial, callsIn_wide.2 ((c4.out _).mono ?_)⟩
        rintro e x3 ⟨rfl, hb3⟩
        dsimp only
        refine hK.out _ _ (bnext hHeld hb3) (fun hHeld => ?_)
        clear hK K
        (try simp only [Act.put, List.getElem_toArray, List.getElem_cons_zero, List.getElem_cons_succ, List.setIfInBounds_toArray, List.set_cons_zero, List.set_cons_succ])
        refine held_take (fun _ => trivial) (by kernel_rfl) (i := 5) (oi := _) (v := ?_) rfl (by kernel_rfl) (by kernel_rfl) (by kernel_rfl) (fun _ _ _ h => h) (by assumption) (Or.inl ⟨by kernel_rfl, ?_⟩) ?_
        rotate_left
        · intro wz hSw; (first | (go_simp; done) | (go_simp; with_reducible rfl))
        (try simp only [Act.put, List.getElem_toArray, List.getElem_cons_zero, List.getElem_cons_succ, List.setIfInBounds_toArray, List.set_cons_zero, List.set_cons_succ])
        refine held_take (fun _ => trivial) (by kernel_rfl) (i := 6) (oi := _) (v := ?_) rfl (by kernel_rfl) (by kernel_rfl) (by kernel_rfl) (fun _ _ _ h => h) (by assumption) (Or.inl ⟨by kernel_rfl, ?_⟩) ?_
        rotate_left
        · intro wz hSw; (first | (go_simp; done) | (go_simp; with_reducible rfl))
        (try simp only [Act.put, List.getElem_toArray, List.getElem_cons_zero, List.getElem_cons_succ, List.setIfInBounds_toArray, List.set_cons_zero, List.set_cons_succ])
        refine held_take (fun _ => trivial) (by kernel_rfl) (i := 7) (oi := _) (v := ?_) rfl (by kernel_rfl) (by kernel_rfl) (by kernel_rfl) (fun _ _ _ h => h) (by assumption) (Or.inl ⟨by kernel_rfl, ?_⟩) ?_
        rotate_left
        · intro wz hSw; (first | (go_simp; done) | (go_simp; with_reducible rfl))
        (try simp only [Act.put, List.getElem_toArray, List.getElem_cons_zero, List.getElem_cons_succ, List.setIfInBounds_toArray, List.set_cons_zero, List.set_cons_succ])
        refine held_step (fun _ => trivial) (i := 8) (o := _) (by kernel_rfl) rfl (fun K hK => ?_)
        go_simp
        have hrow := heap_alloc_new x3 (.cells #[.int .i64 0, .int .i64 0, .int .i64 0, .int .i64 0, .int .i64 0, .int .i64 0, .int .i64 0, .int .i64 0, .int .i64 0, .int .i64 0, .int .i64 0, .int .i64 0, .int .i64 0, .int .i64 0, .int .i64 0, .int .i64 0] 64)
        have hBq : V.heap.size ≤ x3.heap.size := hHeld.size
        refine hK.out _ _ (hHeld.alloc hHeld.size _) (fun hHeld => ?_)
        clear hK K
        (try simp only [Act.put, List.getElem_toArray, List.getElem_cons_zero, List.getElem_cons_succ, List.setIfInBounds_toArray, List.set_cons_zero, List.set_cons_succ])
        refine held_step (fun _ => trivial) (i := 9) (o := _) (by kernel_rfl) rfl (fun K hK => ?_)
        rw [if_pos (by kernel_rfl)]
        refine wpIn_store_row (fun _ => trivial) 64 (.tmp 15) (.tmp 46) (by kernel_rfl) (x3.heap.size) _ _ (mC Z) (by kernel_rfl) (by kernel_rfl) hrow sZ.out zZ.out (mC_one _) ?_
        refine hK.out _ _ (Below.row hHeld hBq _) (fun hHeld => ?_)
        clear hK K
        (try simp only [Act.put, List.getElem_toArray, List.getElem_cons_zero, List.getElem_cons_succ, List.setIfInBounds_toArray, List.set_cons_zero, List.set_cons_succ])
        refine held_take (fun _ => trivial) (by kernel_rfl) (i := 10) (oi := _) (v := ?_) rfl (by kernel_rfl) (by kernel_rfl) (by kernel_rfl) (fun _ _ _ h => h) (by assumption) (Or.inl ⟨by kernel_rfl, ?_⟩) ?_
        rotate_left
        · intro wz hSw; (first | (go_simp; done) | (go_simp; with_reducible rfl))
        (try simp only [Act.put, List.getElem_toArray, List.getElem_cons_zero, List.getElem_cons_succ, List.setIfInBounds_toArray, List.set_cons_zero, List.set_cons_succ])
        refine held_done (by kernel_rfl) ?_ _
        exact HT (x3.heap.size) _ (setRow_heap _ _ _ _ _ _ hrow) hHeld
      · go_simp
        have hrow := heap_alloc_new x2 (.cells #[.int .i64 0, .int .i64 0, .int .i64 0, .int .i64 0, .int .i64 0, .int .i64 0, .int .i64 0, .int .i64 0, .int .i64 0, .int .i64 0, .int .i64 0, .int .i64 0, .int .i64 0, .int .i64 0, .int .i64 0, .int .i64 0] 64)
        have hBq : V.heap.size ≤ x2.heap.size := hHeld.size
        refine hK.out _ _ (hHeld.alloc hHeld.size _) (fun hHeld => ?_)
        clear hK K
        (try simp only [Act.put, List.getElem_toArray, List.getElem_cons_zero, List.getElem_cons_succ, List.setIfInBounds_toArray, List.set_cons_zero, List.set_cons_succ])
        refine held_step (fun _ => trivial) (i := 4) (o := _) (by kernel_rfl) rfl (fun K hK => ?_)
        go_simp
        refine ⟨trivial, callsIn_wide.2 ((c4.out _).mono ?_)⟩
        rintro e x3 ⟨rfl, hb3⟩
        dsimp only
        replace hrow := keep_row hb3 hrow
        refine hK.out _ _ (bnext hHeld hb3) (fun hHeld => ?_)
        clear hK K
        (try simp only [Act.put, List.getElem_toArray, List.getElem_cons_zero, List.getElem_cons_succ, List.setIfInBounds_toArray, List.set_cons_zero, List.set_cons_succ])
        refine held_take (fun _ => trivial) (by kernel_rfl) (i := 5) (oi := _) (v := ?_) rfl (by kernel_rfl) (by kernel_rfl) (by kernel_rfl) (fun _ _ _ h => h) (by assumption) (Or.inl ⟨by kernel_rfl, ?_⟩) ?_
        rotate_left
        · intro wz hSw; (first | (go_simp; done) | (go_simp; with_reducible rfl))
        (try simp only [Act.put, List.getElem_toArray, List.getElem_cons_zero, List.getElem_cons_succ, List.setIfInBounds_toArray, List.set_cons_zero, List.set_cons_succ])
        refine held_take (fun _ => trivial) (by kernel_rfl) (i := 6) (oi := _) (v := ?_) rfl (by kernel_rfl) (by kernel_rfl) (by kernel_rfl) (fun _ _ _ h => h) (by assumption) (Or.inl ⟨by kernel_rfl, ?_⟩) ?_
        rotate_left
        · intro wz hSw; (first | (go_simp; done) | (go_simp; with_reducible rfl))
        (try simp only [Act.put, List.getElem_toArray, List.getElem_cons_zero, List.getElem_cons_succ, List.setIfInBounds_toArray, List.set_cons_zero, List.set_cons_succ])
        refine held_take (fun _ => trivial) (by kernel_rfl) (i := 7) (oi := _) (v := ?_) rfl (by kernel_rfl) (by kernel_rfl) (by kernel_rfl) (fun _ _ _ h => h) (by assumption) (Or.inl ⟨by kernel_rfl, ?_⟩) ?_
        rotate_left
        · intro wz hSw; (first | (go_simp; done) | (go_simp; with_reducible rfl))
        (try simp only [Act.put, List.getElem_toArray, List.getElem_cons_zero, List.getElem_cons_succ, List.setIfInBounds_toArray, List.set_cons_zero, List.set_cons_succ])
        refine held_step (fun _ => trivial) (i := 9) (o := _) (by kernel_rfl) rfl (fun K hK => ?_)
        rw [if_pos (by kernel_rfl)]
        refine wpIn_store_row (fun _ => trivial) 64 (.tmp 15) (.tmp 46) (by kernel_rfl) (x2.heap.size) _ _ (mC Z) (by kernel_rfl) (by kernel_rfl) hrow sZ.out zZ.out (mC_one _) ?_
        refine hK.out _ _ (Below.row hHeld hBq _) (fun hHeld => ?_)
        clear hK K
        (try simp only [Act.put, List.getElem_toArray, List.getElem_cons_zero, List.getElem_cons_succ, List.setIfInBounds_toArray, List.set_cons_zero, List.set_cons_succ])
        refine held_take (fun _ => trivial) (by kernel_rfl) (i := 10) (oi := _) (v := ?_) rfl (by kernel_rfl) (by kernel_rfl) (by kernel_rfl) (fun _ _ _ h => h) (by assumption) (Or.inl ⟨by kernel_rfl, ?_⟩) ?_
        rotate_left
        · intro wz hSw; (first | (go_simp; done) | (go_simp; with_reducible rfl))
        (try simp only [Act.put, List.getElem_toArray, List.getElem_cons_zero, List.getElem_cons_succ, List.setIfInBounds_toArray, List.set_cons_zero, List.set_cons_succ])
        refine held_done (by kernel_rfl) ?_ _
        exact HT (x2.heap.size) _ (setRow_heap _ _ _ _ _ _ hrow) hHeld
    · go_simp
      have hrow := heap_alloc_new x1 (.cells #[.int .i64 0, .int .i64 0, .int .i64 0, .int .i64 0, .int .i64 0, .int .i64 0, .int .i64 0, .int .i64 0, .int .i64 0, .int .i64 0, .int .i64 0, .int .i64 0, .int .i64 0, .int .i64 0, .int .i64 0, .int .i64 0] 64)
      have hBq : V.heap.size ≤ x1.heap.size := hHeld.size
      refine hK.out _ _ (hHeld.alloc hHeld.size _) (fun hHeld => ?_)
      clear hK K
      (try simp only [Act.put, List.getElem_toArray, List.getElem_cons_zero, List.getElem_cons_succ, List.setIfInBounds_toArray, List.set_cons_zero, List.set_cons_succ])
      refine held_step (fun _ => trivial) (i := 3) (o := _) (by kernel_rfl) rfl (fun K hK => ?_)
      go_simp
      refine ⟨trivial, callsIn_wide.2 ((cA.out _).mono ?_)⟩
      rintro e x2 ⟨rfl, hb2⟩
      dsimp only
      replace hrow := keep_row hb2 hrow
      refine hK.out _ _ (bnext hHeld hb2) (fun hHeld => ?_)
      clear hK K
      (try simp only [Act.put, List.getElem_toArray, List.getElem_cons_zero, List.getElem_cons_succ, List.setIfInBounds_toArray, List.set_cons_zero, List.set_cons_succ])
      refine held_step (fun _ => trivial) (i := 4) (o := _) (by kernel_rfl) rfl (fun K hK => ?_)
      go_simp
      refine ⟨trivial, callsIn_wide.2 ((c4.out _).mono ?_)⟩
      rintro e x3 ⟨rfl, hb3⟩
      dsimp only
      replace hrow := keep_row hb3 hrow
      refine hK.out _ _ (bnext hHeld hb3) (fun hHeld => ?_)
      clear hK K
      (try simp only [Act.put, List.getElem_toArray, List.getElem_cons_zero, List.getElem_cons_succ, List.setIfInBounds_toArray, List.set_cons_zero, List.set_cons_succ])
      refine held_take (fun _ => trivial) (by kernel_rfl) (i := 5) (oi := _) (v := ?_) rfl (by kernel_rfl) (by kernel_rfl) (by kernel_rfl) (fun _ _ _ h => h) (by assumption) (Or.inl ⟨by kernel_rfl, ?_⟩) ?_
      rotate_left
      · intro wz hSw; (first | (go_simp; done) | (go_simp; with_reducible rfl))
      (try simp only [Act.put, List.getElem_toArray, List.getElem_cons_zero, List.getElem_cons_succ, List.setIfInBounds_toArray, List.set_cons_zero, List.set_cons_succ])
      refine held_take (fun _ => trivial) (by kernel_rfl) (i := 6) (oi := _) (v := ?_) rfl (by kernel_rfl) (by kernel_rfl) (by kernel_rfl) (fun _ _ _ h => h) (by assumption) (Or.inl ⟨by kernel_rfl, ?_⟩) ?_
      rotate_left
      · intro wz hSw; (first | (go_simp; done) | (go_simp; with_reducible rfl))
      (try simp only [Act.put, List.getElem_toArray, List.getElem_cons_zero, List.getElem_cons_succ, List.setIfInBounds_toArray, List.set_cons_zero, List.set_cons_succ])
      refine held_take (fun _ => trivial) (by kernel_rfl) (i := 7) (oi := _) (v := ?_) rfl (by kernel_rfl) (by kernel_rfl) (by kernel_rfl) (fun _ _ _ h => h) (by assumption) (Or.inl ⟨by kernel_rfl, ?_⟩) ?_
      rotate_left
      · intro wz hSw; (first | (go_simp; done) | (go_simp; with_reducible rfl))
      (try simp only [Act.put, List.getElem_toArray, List.getElem_cons_zero, List.getElem_cons_succ, List.setIfInBounds_toArray, List.set_cons_zero, List.set_cons_succ])
      refine held_step (fun _ => trivial) (i := 9) (o := _) (by kernel_rfl) rfl (fun K hK => ?_)
      rw [if_pos (by kernel_rfl)]
      refine wpIn_store_row (fun _ => trivial) 64 (.tmp 15) (.tmp 46) (by kernel_rfl) (x1.heap.size) _ _ (mC Z) (by kernel_rfl) (by kernel_rfl) hrow sZ.out zZ.out (mC_one _) ?_
      refine hK.out _ _ (Below.row hHeld hBq _) (fun hHeld => ?_)
      clear hK K
      (try simp only [Act.put, List.getElem_toArray, List.getElem_cons_zero, List.getElem_cons_succ, List.setIfInBounds_toArray, List.set_cons_zero, List.set_cons_succ])
      refine held_take (fun _ => trivial) (by kernel_rfl) (i := 10) (oi := _) (v := ?_) rfl (by kernel_rfl) (by kernel_rfl) (by kernel_rfl) (fun _ _ _ h => h) (by assumption) (Or.inl ⟨by kernel_rfl, ?_⟩) ?_
      rotate_left
      · intro wz hSw; (first | (go_simp; done) | (go_simp; with_reducible rfl))
      (try simp only [Act.put, List.getElem_toArray, List.getElem_cons_zero, List.getElem_cons_succ, List.setIfInBounds_toArray, List.set_cons_zero, List.set_cons_succ])
      refine held_done (by kernel_rfl) ?_ _
      exact HT (x1.heap.size) _ (setRow_heap _ _ _ _ _ _ hrow) hHeld
  · go_simp
    have hrow := heap_alloc_new V.drew (.cells #[.int .i64 0, .int .i64 0, .int .i64 0, .int .i64 0, .int .i64 0, .int .i64 0, .int .i64 0, .int .i64 0, .int .i64 0, .int .i64 0, .int .i64 0, .int .i64 0, .int .i64 0, .int .i64 0, .int .i64 0, .int .i64 0] 64)
    have hBq : V.heap.size ≤ V.heap.size := hHeld.size
    refine hK.out _ _ (hHeld.alloc hHeld.size _) (fun hHeld => ?_)
    clear hK K
    (try simp only [Act.put, List.getElem_toArray, List.getElem_cons_zero, List.getElem_cons_succ, List.setIfInBounds_toArray, List.set_cons_zero, List.set_cons_succ])
    refine held_step (fun _ => trivial) (i := 1) (o := _) (by kernel_rfl) rfl (fun K hK => ?_)
    go_simp
    refine ⟨trivial, callsIn_wide.2 ((cB.out _).mono ?_)⟩
    rintro e x1 ⟨rfl, hb1⟩
    dsimp only
    replace hrow := keep_row hb1 hrow
    refine hK.out _ _ (bnext hHeld hb1) (fun hHeld => ?_)
    clear hK K
    (try simp only [Act.put, List.getElem_toArray, List.getElem_cons_zero, List.getElem_cons_succ, List.setIfInBounds_toArray, List.set_cons_zero, List.set_cons_succ])
    refine held_step (fun _ => trivial) (i := 3) (o := _) (by kernel_rfl) rfl (fun K hK => ?_)
    go_simp
    refine ⟨trivial, callsIn_wide.2 ((cA.out _).mono ?_)⟩
    rintro e x2 ⟨rfl, hb2⟩
    dsimp only
    replace hrow := keep_row hb2 hrow
    refine hK.out _ _ (bnext hHeld hb2) (fun hHeld => ?_)
    clear hK K
    (try simp only [Act.put, List.getElem_toArray, List.getElem_cons_zero, List.getElem_cons_succ, List.setIfInBounds_toArray, List.set_cons_zero, List.set_cons_succ])
    refine held_step (fun _ => trivial) (i := 4) (o := _) (by kernel_rfl) rfl (fun K hK => ?_)
    go_simp
    refine ⟨trivial, callsIn_wide.2 ((c4.out _).mono ?_)⟩
    rintro e x3 ⟨rfl, hb3⟩
    dsimp only
    replace hrow := keep_row hb3 hrow
    refine hK.out _ _ (bnext hHeld hb3) (fun hHeld => ?_)
    clear hK K
    (try simp only [Act.put, List.getElem_toArray, List.getElem_cons_zero, List.getElem_cons_succ, List.setIfInBounds_toArray, List.set_cons_zero, List.set_cons_succ])
    refine held_take (fun _ => trivial) (by kernel_rfl) (i := 5) (oi := _) (v := ?_) rfl (by kernel_rfl) (by kernel_rfl) (by kernel_rfl) (fun _ _ _ h => h) (by assumption) (Or.inl ⟨by kernel_rfl, ?_⟩) ?_
    rotate_left
    · intro wz hSw; (first | (go_simp; done) | (go_simp; with_reducible rfl))
    (try simp only [Act.put, List.getElem_toArray, List.getElem_cons_zero, List.getElem_cons_succ, List.setIfInBounds_toArray, List.set_cons_zero, List.set_cons_succ])
    refine held_take (fun _ => trivial) (by kernel_rfl) (i := 6) (oi := _) (v := ?_) rfl (by kernel_rfl) (by kernel_rfl) (by kernel_rfl) (fun _ _ _ h => h) (by assumption) (Or.inl ⟨by kernel_rfl, ?_⟩) ?_
    rotate_left
    · intro wz hSw; (first | (go_simp; done) | (go_simp; with_reducible rfl))
    (try simp only [Act.put, List.getElem_toArray, List.getElem_cons_zero, List.getElem_cons_succ, List.setIfInBounds_toArray, List.set_cons_zero, List.set_cons_succ])
    refine held_take (fun _ => trivial) (by kernel_rfl) (i := 7) (oi := _) (v := ?_) rfl (by kernel_rfl) (by kernel_rfl) (by kernel_rfl) (fun _ _ _ h => h) (by assumption) (Or.inl ⟨by kernel_rfl, ?_⟩) ?_
    rotate_left
    · intro wz hSw; (first | (go_simp; done) | (go_simp; with_reducible rfl))
    (try simp only [Act.put, List.getElem_toArray, List.getElem_cons_zero, List.getElem_cons_succ, List.setIfInBounds_toArray, List.set_cons_zero, List.set_cons_succ])
    refine held_step (fun _ => trivial) (i := 9) (o := _) (by kernel_rfl) rfl (fun K hK => ?_)
    rw [if_pos (by kernel_rfl)]
    refine wpIn_store_row (fun _ => trivial) 64 (.tmp 15) (.tmp 46) (by kernel_rfl) (V.heap.size) _ _ (mC Z) (by kernel_rfl) (by kernel_rfl) hrow sZ.out zZ.out (mC_one _) ?_
    refine hK.out _ _ (Below.row hHeld hBq _) (fun hHeld => ?_)
    clear hK K
    (try simp only [Act.put, List.getElem_toArray, List.getElem_cons_zero, List.getElem_cons_succ, List.setIfInBounds_toArray, List.set_cons_zero, List.set_cons_succ])
    refine held_take (fun _ => trivial) (by kernel_rfl) (i := 10) (oi := _) (v := ?_) rfl (by kernel_rfl) (by kernel_rfl) (by kernel_rfl) (fun _ _ _ h => h) (by assumption) (Or.inl ⟨by kernel_rfl, ?_⟩) ?_
    rotate_left
    · intro wz hSw; (first | (go_simp; done) | (go_simp; with_reducible rfl))
    (try simp only [Act.put, List.getElem_toArray, List.getElem_cons_zero, List.getElem_cons_succ, List.setIfInBounds_toArray, List.set_cons_zero, List.set_cons_succ])
    refine held_done (by kernel_rfl) ?_ _
    exact HT (V.heap.size) _ (setRow_heap _ _ _ _ _ _ hrow) hHeld
end Go.Proofs.Ytgkcbadfjhicnaa.Fx
