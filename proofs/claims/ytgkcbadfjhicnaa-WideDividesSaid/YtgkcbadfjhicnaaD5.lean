/- WideDivides, walked. -/
import Derived.Test.YtgkcbadfjhicnaaProg
import Derived.Test.YtgkcbadfjhicnaaD3
import Derived.Test.YtgkcbadfjhicnaaW7
set_option linter.unusedVariables false
set_option linter.unusedSimpArgs false
namespace Go.Proofs.Ytgkcbadfjhicnaa.Fx
open Go Go.RowKit Wm
set_option maxRecDepth 100000 in
set_option maxHeartbeats 4000000 in
theorem divides_fit (a b c X P S PR M N t nt xh qh r n : Int) (xl ql : Nat) (w : World)
    (cWD : Hid (Ans 25 #[.agg #[.int .i64 xh, .int .u64 xl], .int .i64 c] (.tuple #[.agg #[.int .i64 qh, .int .u64 ql], .int .i64 r, .int .i64 0])))
    (cF : Hid (Ans 9 #[.agg #[.int .i64 xh, .int .u64 xl]] (.agg (bv X))))
    (cOc : Hid (Ans 12 #[.int .i64 c] (.agg (bv c))))
    (cD : Hid (Ans 26 #[.agg (bv X), .agg (bv c)] (.tuple #[.agg (bv P), .agg (bv S), .int .i64 0])))
    (cC : Hid (Ans 14 #[.agg (bv P)] (.tuple #[.agg #[.int .i64 qh, .int .u64 ql], .int .i64 0])))
    (cWM : Hid (Ans 27 #[.int .i64 a, .int .i64 b, .int .i64 c] (.tuple #[.int .i64 n, .int .i64 0])))
    (cOr : Hid (Ans 12 #[.int .i64 r] (.agg (bv S))))
    (cOa : Hid (Ans 12 #[.int .i64 a] (.agg (bv a))))
    (cOb : Hid (Ans 12 #[.int .i64 b] (.agg (bv b))))
    (cMu : Hid (Ans 11 #[.agg (bv a), .agg (bv b)] (.agg (bv PR))))
    (cD2 : Hid (Ans 26 #[.agg (bv PR), .agg (bv c)] (.tuple #[.agg (bv M), .agg (bv N), .int .i64 0])))
    (cTw : Hid (Ans 20 #[.int .i64 63] (.agg (bv t))))
    (cNt : Hid (Ans 17 #[.agg (bv t)] (.agg (bv nt))))
    (cL3 : Hid (Ans 18 #[.agg (bv M), .agg (bv nt)] (.bool false)))
    (cL4 : Hid (Ans 18 #[.agg (bv M), .agg (bv t)] (.bool true)))
    (cOn : Hid (Ans 12 #[.int .i64 n] (.agg (bv M))))
    : Calls Try.prog 4 #[.agg #[.int .i64 xh, .int .u64 xl], .int .i64 a, .int .i64 b, .int .i64 c] w fun e w' => e = .returned (.bool true) ∧ Below w.heap.size w w' := by
  have Rx : Hid (WideAt w.heap.size xh xl (w.alloc (.cells #[.int .i64 xh, .int .u64 xl] 24))) := Lib.hid (heap_alloc_new _ _)
  have HB : Hid (Below w.heap.size w (w.alloc (.cells #[.int .i64 xh, .int .u64 xl] 24))) := Lib.hid (by go_grown)
  go_enter Try.func4, Try.ntmps4
  go_wp2_with (refine wpList_load_row rfl 24 (.tmp 4) rfl (w.heap.size) rfl _ _ _ _ Rx.out Try.underlying24 rfl (by kernel_rfl) ?_)
  refine (cWD.out _).mono ?_
  rintro e w1 ⟨rfl, hbn⟩
  have Bn := bnext HB.out hbn
  have HBn : Hid (Below w.heap.size w (w1.alloc (.cells #[.int .i64 qh, .int .u64 ql] 24))) := Lib.hid (Bn.alloc Bn.size _)
  clear HB
  have HB := HBn
  clear HBn
  replace Rx : Hid (WideAt (w.heap.size) xh xl (w1.alloc (.cells #[.int .i64 qh, .int .u64 ql] 24))) := Lib.hid (step_row (WideAt.below hbn Rx.out))
  have Rq : Hid (WideAt (w1.heap.size) qh ql (w1.alloc (.cells #[.int .i64 qh, .int .u64 ql] 24))) := Lib.hid (heap_alloc_new _ _)
  clear hbn Bn
  go_wp2_with (refine wpList_load_row rfl 24 (.tmp 4) rfl (w.heap.size) rfl _ _ _ _ Rx.out Try.underlying24 rfl (by kernel_rfl) ?_)
  refine (cF.out _).mono ?_
  rintro e w2 ⟨rfl, hbn⟩
  have Bn := bnext HB.out hbn
  have HBn : Hid (Below w.heap.size w w2) := Lib.hid (Bn)
  clear HB
  have HB := HBn
  clear HBn
  replace Rx : Hid (WideAt (w.heap.size) xh xl w2) := Lib.hid (WideAt.below hbn Rx.out)
  replace Rq : Hid (WideAt (w1.heap.size) qh ql w2) := Lib.hid (WideAt.below hbn Rq.out)
  clear hbn Bn
  go_wp2_with fail
  refine (cOc.out _).mono ?_
  rintro e w3 ⟨rfl, hbn⟩
  have Bn := bnext HB.out hbn
  have HBn : Hid (Below w.heap.size w w3) := Lib.hid (Bn)
  clear HB
  have HB := HBn
  clear HBn
  replace Rx : Hid (WideAt (w.heap.size) xh xl w3) := Lib.hid (WideAt.below hbn Rx.out)
  replace Rq : Hid (WideAt (w1.heap.size) qh ql w3) := Lib.hid (WideAt.below hbn Rq.out)
  clear hbn Bn
  go_wp2_with fail
  refine (cD.out _).mono ?_
  rintro e w4 ⟨rfl, hbn⟩
  have Bn := bnext HB.out hbn
  have Z1 : Hid (BigAt (w4.heap.size) 0 ((w4.alloc (.cells #[.bool false, .int .u64 0, .int .u64 0, .int .u64 0, .int .u64 0, .int .u64 0, .int .u64 0, .int .u64 0, .int .u64 0, .int .u64 0, .int .u64 0, .int .u64 0, .int .u64 0, .int .u64 0, .int .u64 0, .int .u64 0, .int .u64 0, .int .u64 0, .int .u64 0, .int .u64 0, .int .u64 0] 27)).alloc (.cells #[.bool false, .int .u64 0, .int .u64 0, .int .u64 0, .int .u64 0, .int .u64 0, .int .u64 0, .int .u64 0, .int .u64 0, .int .u64 0, .int .u64 0, .int .u64 0, .int .u64 0, .int .u64 0, .int .u64 0, .int .u64 0, .int .u64 0, .int .u64 0, .int .u64 0, .int .u64 0, .int .u64 0] 27))) := Lib.hid (step_row (heap_alloc_new _ _))
  have Z2 : Hid (BigAt (w4.heap.size + 1) 0 (((w4.alloc (.cells #[.bool false, .int .u64 0, .int .u64 0, .int .u64 0, .int .u64 0, .int .u64 0, .int .u64 0, .int .u64 0, .int .u64 0, .int .u64 0, .int .u64 0, .int .u64 0, .int .u64 0, .int .u64 0, .int .u64 0, .int .u64 0, .int .u64 0, .int .u64 0, .int .u64 0, .int .u64 0, .int .u64 0] 27)).alloc (.cells #[.bool false, .int .u64 0, .int .u64 0, .int .u64 0, .int .u64 0, .int .u64 0, .int .u64 0, .int .u64 0, .int .u64 0, .int .u64 0, .int .u64 0, .int .u64 0, .int .u64 0, .int .u64 0, .int .u64 0, .int .u64 0, .int .u64 0, .int .u64 0, .int .u64 0, .int .u64 0, .int .u64 0] 27)).setRow (w4.heap.size) (bv P))) := Lib.hid (BigAt.other (k := w4.heap.size) (show BigAt (w4.heap.size + 1) 0 ((w4.alloc (.cells #[.bool false, .int .u64 0, .int .u64 0, .int .u64 0, .int .u64 0, .int .u64 0, .int .u64 0, .int .u64 0, .int .u64 0, .int .u64 0, .int .u64 0, .int .u64 0, .int .u64 0, .int .u64 0, .int .u64 0, .int .u64 0, .int .u64 0, .int .u64 0, .int .u64 0, .int .u64 0, .int .u64 0] 27)).alloc (.cells #[.bool false, .int .u64 0, .int .u64 0, .int .u64 0, .int .u64 0, .int .u64 0, .int .u64 0, .int .u64 0, .int .u64 0, .int .u64 0, .int .u64 0, .int .u64 0, .int .u64 0, .int .u64 0, .int .u64 0, .int .u64 0, .int .u64 0, .int .u64 0, .int .u64 0, .int .u64 0, .int .u64 0] 27)) from heap_alloc2_new _ _ _) (by omega) _)
  have Bz : Below w4.heap.size w4 ((((w4.alloc (.cells #[.bool false, .int .u64 0, .int .u64 0, .int .u64 0, .int .u64 0, .int .u64 0, .int .u64 0, .int .u64 0, .int .u64 0, .int .u64 0, .int .u64 0, .int .u64 0, .int .u64 0, .int .u64 0, .int .u64 0, .int .u64 0, .int .u64 0, .int .u64 0, .int .u64 0, .int .u64 0, .int .u64 0] 27)).alloc (.cells #[.bool false, .int .u64 0, .int .u64 0, .int .u64 0, .int .u64 0, .int .u64 0, .int .u64 0, .int .u64 0, .int .u64 0, .int .u64 0, .int .u64 0, .int .u64 0, .int .u64 0, .int .u64 0, .int .u64 0, .int .u64 0, .int .u64 0, .int .u64 0, .int .u64 0, .int .u64 0, .int .u64 0] 27)).setRow (w4.heap.size) (bv P)).setRow (w4.heap.size + 1) (bv S)) := Below.row (Below.row (by go_grown) (Nat.le_refl _) _) (by omega) _
  have HBn : Hid (Below w.heap.size w ((((w4.alloc (.cells #[.bool false, .int .u64 0, .int .u64 0, .int .u64 0, .int .u64 0, .int .u64 0, .int .u64 0, .int .u64 0, .int .u64 0, .int .u64 0, .int .u64 0, .int .u64 0, .int .u64 0, .int .u64 0, .int .u64 0, .int .u64 0, .int .u64 0, .int .u64 0, .int .u64 0, .int .u64 0, .int .u64 0] 27)).alloc (.cells #[.bool false, .int .u64 0, .int .u64 0, .int .u64 0, .int .u64 0, .int .u64 0, .int .u64 0, .int .u64 0, .int .u64 0, .int .u64 0, .int .u64 0, .int .u64 0, .int .u64 0, .int .u64 0, .int .u64 0, .int .u64 0, .int .u64 0, .int .u64 0, .int .u64 0, .int .u64 0, .int .u64 0] 27)).setRow (w4.heap.size) (bv P)).setRow (w4.heap.size + 1) (bv S))) := Lib.hid (bnext Bn Bz)
  clear HB
  have HB := HBn
  clear HBn
  replace Rx : Hid (WideAt (w.heap.size) xh xl ((((w4.alloc (.cells #[.bool false, .int .u64 0, .int .u64 0, .int .u64 0, .int .u64 0, .int .u64 0, .int .u64 0, .int .u64 0, .int .u64 0, .int .u64 0, .int .u64 0, .int .u64 0, .int .u64 0, .int .u64 0, .int .u64 0, .int .u64 0, .int .u64 0, .int .u64 0, .int .u64 0, .int .u64 0, .int .u64 0] 27)).alloc (.cells #[.bool false, .int .u64 0, .int .u64 0, .int .u64 0, .int .u64 0, .int .u64 0, .int .u64 0, .int .u64 0, .int .u64 0, .int .u64 0, .int .u64 0, .int .u64 0, .int .u64 0, .int .u64 0, .int .u64 0, .int .u64 0, .int .u64 0, .int .u64 0, .int .u64 0, .int .u64 0, .int .u64 0] 27)).setRow (w4.heap.size) (bv P)).setRow (w4.heap.size + 1) (bv S))) := Lib.hid (WideAt.below Bz (WideAt.below hbn Rx.out))
  replace Rq : Hid (WideAt (w1.heap.size) qh ql ((((w4.alloc (.cells #[.bool false, .int .u64 0, .int .u64 0, .int .u64 0, .int .u64 0, .int .u64 0, .int .u64 0, .int .u64 0, .int .u64 0, .int .u64 0, .int .u64 0, .int .u64 0, .int .u64 0, .int .u64 0, .int .u64 0, .int .u64 0, .int .u64 0, .int .u64 0, .int .u64 0, .int .u64 0, .int .u64 0] 27)).alloc (.cells #[.bool false, .int .u64 0, .int .u64 0, .int .u64 0, .int .u64 0, .int .u64 0, .int .u64 0, .int .u64 0, .int .u64 0, .int .u64 0, .int .u64 0, .int .u64 0, .int .u64 0, .int .u64 0, .int .u64 0, .int .u64 0, .int .u64 0, .int .u64 0, .int .u64 0, .int .u64 0, .int .u64 0] 27)).setRow (w4.heap.size) (bv P)).setRow (w4.heap.size + 1) (bv S))) := Lib.hid (WideAt.below Bz (WideAt.below hbn Rq.out))
  have Rp : Hid (BigAt (w4.heap.size) P ((((w4.alloc (.cells #[.bool false, .int .u64 0, .int .u64 0, .int .u64 0, .int .u64 0, .int .u64 0, .int .u64 0, .int .u64 0, .int .u64 0, .int .u64 0, .int .u64 0, .int .u64 0, .int .u64 0, .int .u64 0, .int .u64 0, .int .u64 0, .int .u64 0, .int .u64 0, .int .u64 0, .int .u64 0, .int .u64 0] 27)).alloc (.cells #[.bool false, .int .u64 0, .int .u64 0, .int .u64 0, .int .u64 0, .int .u64 0, .int .u64 0, .int .u64 0, .int .u64 0, .int .u64 0, .int .u64 0, .int .u64 0, .int .u64 0, .int .u64 0, .int .u64 0, .int .u64 0, .int .u64 0, .int .u64 0, .int .u64 0, .int .u64 0, .int .u64 0] 27)).setRow (w4.heap.size) (bv P)).setRow (w4.heap.size + 1) (bv S))) := Lib.hid (BigAt.other (k := w4.heap.size + 1) (BigAt.row Z1.out P) (by omega) _)
  have Rs : Hid (BigAt (w4.heap.size + 1) S ((((w4.alloc (.cells #[.bool false, .int .u64 0, .int .u64 0, .int .u64 0, .int .u64 0, .int .u64 0, .int .u64 0, .int .u64 0, .int .u64 0, .int .u64 0, .int .u64 0, .int .u64 0, .int .u64 0, .int .u64 0, .int .u64 0, .int .u64 0, .int .u64 0, .int .u64 0, .int .u64 0, .int .u64 0, .int .u64 0] 27)).alloc (.cells #[.bool false, .int .u64 0, .int .u64 0, .int .u64 0, .int .u64 0, .int .u64 0, .int .u64 0, .int .u64 0, .int .u64 0, .int .u64 0, .int .u64 0, .int .u64 0, .int .u64 0, .int .u64 0, .int .u64 0, .int .u64 0, .int .u64 0, .int .u64 0, .int .u64 0, .int .u64 0, .int .u64 0] 27)).setRow (w4.heap.size) (bv P)).setRow (w4.heap.size + 1) (bv S))) := Lib.hid (BigAt.row Z2.out S)
  clear hbn Bn Bz
  go_wp2_with (first | (refine wpList_store_big rfl 27 (.tmp 12) (.tmp 36) rfl (w4.heap.size) _ _ (bv P) rfl rfl Z1.out (bv_info _) (bv_same _ _) (bv_one _) ?_) | (refine wpList_store_big rfl 27 (.tmp 13) (.tmp 37) rfl (w4.heap.size + 1) _ _ (bv S) rfl rfl Z2.out (bv_info _) (bv_same _ _) (bv_one _) ?_) | (refine wpList_load_row rfl 27 (.tmp 12) rfl (w4.heap.size) rfl _ _ _ _ Rp.out Try.underlying27 rfl (bv_info _) ?_))
  refine (cC.out _).mono ?_
  rintro e w5 ⟨rfl, hbn⟩
  have Bn := bnext HB.out hbn
  have HBn : Hid (Below w.heap.size w (w5.alloc (.cells #[.int .i64 qh, .int .u64 ql] 24))) := Lib.hid (Bn.alloc Bn.size _)
  clear HB
  have HB := HBn
  clear HBn
  replace Rx : Hid (WideAt (w.heap.size) xh xl (w5.alloc (.cells #[.int .i64 qh, .int .u64 ql] 24))) := Lib.hid (step_row (WideAt.below hbn Rx.out))
  replace Rq : Hid (WideAt (w1.heap.size) qh ql (w5.alloc (.cells #[.int .i64 qh, .int .u64 ql] 24))) := Lib.hid (step_row (WideAt.below hbn Rq.out))
  replace Rp : Hid (BigAt (w4.heap.size) P (w5.alloc (.cells #[.int .i64 qh, .int .u64 ql] 24))) := Lib.hid (step_row (BigAt.below hbn Rp.out))
  replace Rs : Hid (BigAt (w4.heap.size + 1) S (w5.alloc (.cells #[.int .i64 qh, .int .u64 ql] 24))) := Lib.hid (step_row (BigAt.below hbn Rs.out))
  have Rv : Hid (WideAt (w5.heap.size) qh ql (w5.alloc (.cells #[.int .i64 qh, .int .u64 ql] 24))) := Lib.hid (heap_alloc_new _ _)
  clear hbn Bn
  go_wp2_with fail
  refine (cWM.out _).mono ?_
  rintro e w6 ⟨rfl, hbn⟩
  have Bn := bnext HB.out hbn
  have HBn : Hid (Below w.heap.size w w6) := Lib.hid (Bn)
  clear HB
  have HB := HBn
  clear HBn
  replace Rx : Hid (WideAt (w.heap.size) xh xl w6) := Lib.hid (WideAt.below hbn Rx.out)
  replace Rq : Hid (WideAt (w1.heap.size) qh ql w6) := Lib.hid (WideAt.below hbn Rq.out)
  replace Rp : Hid (BigAt (w4.heap.size) P w6) := Lib.hid (BigAt.below hbn Rp.out)
  replace Rs : Hid (BigAt (w4.heap.size + 1) S w6) := Lib.hid (BigAt.below hbn Rs.out)
  replace Rv : Hid (WideAt (w5.heap.size) qh ql w6) := Lib.hid (WideAt.below hbn Rv.out)
  clear hbn Bn
  go_wp2_with fail
  rename_i K12 hK12 K10 hK10
  have hnb := fun W => ne_big S W
  refine (wpIn_wide (n := 5)).1 (held_region (F := Fence.wide) (S := fun X => Below w6.heap.size w6 X) (by kernel_rfl) (bdrew0 _ _ 1) (fun hHeld => ?_))
  refine held_take (fun _ => trivial) (by kernel_rfl) (i := 0) (oi := _) (v := ?_) rfl (by kernel_rfl) (by kernel_rfl) (by kernel_rfl) (fun _ _ _ h => h) (by assumption) (Or.inl ⟨by kernel_rfl, ?_⟩) ?_
  rotate_left
  · intro wz hSw; (first | (go_simp; done) | (go_simp; with_reducible rfl))
  (try simp only [Act.put, List.getElem_toArray, List.getElem_cons_zero, List.getElem_cons_succ, List.setIfInBounds_toArray, List.set_cons_zero, List.set_cons_succ])
  refine held_take (fun _ => trivial) (by kernel_rfl) (i := 1) (oi := _) (v := ?_) rfl (by kernel_rfl) (by kernel_rfl) (by kernel_rfl) (fun _ _ _ h => h) (by assumption) (Or.inl ⟨by kernel_rfl, ?_⟩) ?_
  rotate_left
  · intro wz hSw; (first | (go_simp; done) | (go_simp; with_reducible rfl))
  (try simp only [Act.put, List.getElem_toArray, List.getElem_cons_zero, List.getElem_cons_succ, List.setIfInBounds_toArray, List.set_cons_zero, List.set_cons_succ])
  refine held_take (fun _ => trivial) (by kernel_rfl) (i := 2) (oi := _) (v := ?_) rfl (by kernel_rfl) (by kernel_rfl) (by kernel_rfl) (fun _ _ _ h => h) (by assumption) (Or.inl ⟨by kernel_rfl, ?_⟩) ?_
  rotate_left
  · intro wz hSw; (first | (go_simp; done) | (go_simp; with_reducible rfl))
  (try simp only [Act.put, List.getElem_toArray, List.getElem_cons_zero, List.getElem_cons_succ, List.setIfInBounds_toArray, List.set_cons_zero, List.set_cons_succ])
  refine held_take (fun _ => trivial) (by kernel_rfl) (i := 3) (oi := _) (v := .agg #[.int .i64 qh, .int .u64 ql]) rfl (by kernel_rfl) (by kernel_rfl) (by kernel_rfl) (fun _ _ _ h => h) (by assumption) (Or.inl ⟨by kernel_rfl, ?_⟩) ?_
  · intro wz hSw; exact exec_load_row 24 (.tmp 9) (by kernel_rfl) (w1.heap.size) (by kernel_rfl) _ _ _ _ (WideAt.below hSw Rq.out) Try.underlying24 (by kernel_rfl) (by kernel_rfl)
  (try simp only [Act.put, List.getElem_toArray, List.getElem_cons_zero, List.getElem_cons_succ, List.setIfInBounds_toArray, List.set_cons_zero, List.set_cons_succ])
  refine held_take (fun _ => trivial) (by kernel_rfl) (i := 4) (oi := _) (v := .agg #[.int .i64 qh, .int .u64 ql]) rfl (by kernel_rfl) (by kernel_rfl) (by kernel_rfl) (fun _ _ _ h => h) (by assumption) (Or.inl ⟨by kernel_rfl, ?_⟩) ?_
  · intro wz hSw; exact exec_load_row 24 (.tmp 15) (by kernel_rfl) (w5.heap.size) (by kernel_rfl) _ _ _ _ (WideAt.below hSw Rv.out) Try.underlying24 (by kernel_rfl) (by kernel_rfl)
  (try simp only [Act.put, List.getElem_toArray, List.getElem_cons_zero, List.getElem_cons_succ, List.setIfInBounds_toArray, List.set_cons_zero, List.set_cons_succ])
  refine held_take (fun _ => trivial) (by kernel_rfl) (i := 5) (oi := _) (v := ?_) rfl (by kernel_rfl) (by kernel_rfl) (by kernel_rfl) (fun _ _ _ h => h) (by assumption) (Or.inl ⟨by kernel_rfl, ?_⟩) ?_
  rotate_left
  · intro wz hSw; (first | (go_simp; done) | (go_simp; with_reducible rfl))
  (try simp only [Act.put, List.getElem_toArray, List.getElem_cons_zero, List.getElem_cons_succ, List.setIfInBounds_toArray, List.set_cons_zero, List.set_cons_succ])
  refine held_take (fun _ => trivial) (by kernel_rfl) (i := 6) (oi := _) (v := ?_) rfl (by kernel_rfl) (by kernel_rfl) (by kernel_rfl) (fun _ _ _ h => h) (by assumption) (Or.inl ⟨by kernel_rfl, ?_⟩) ?_
  rotate_left
  · intro wz hSw; (first | (go_simp; done) | (go_simp; with_reducible rfl))
  (try simp only [Act.put, List.getElem_toArray, List.getElem_cons_zero, List.getElem_cons_succ, List.setIfInBounds_toArray, List.set_cons_zero, List.set_cons_succ])
  refine held_take (fun _ => trivial) (by kernel_rfl) (i := 7) (oi := _) (v := ?_) rfl (by kernel_rfl) (by kernel_rfl) (by kernel_rfl) (fun _ _ _ h => h) (by assumption) (Or.inl ⟨by kernel_rfl, ?_⟩) ?_
  rotate_left
  · intro wz hSw; (first | (go_simp; done) | (go_simp; with_reducible rfl))
  (try simp only [Act.put, List.getElem_toArray, List.getElem_cons_zero, List.getElem_cons_succ, List.setIfInBounds_toArray, List.set_cons_zero, List.set_cons_succ])
  refine held_take (fun _ => trivial) (by kernel_rfl) (i := 8) (oi := _) (v := ?_) rfl (by kernel_rfl) (by kernel_rfl) (by kernel_rfl) (fun _ _ _ h => h) (by assumption) (Or.inl ⟨by kernel_rfl, ?_⟩) ?_
  rotate_left
  · intro wz hSw; (first | (go_simp; done) | (go_simp; with_reducible rfl))
  (try simp only [Act.put, List.getElem_toArray, List.getElem_cons_zero, List.getElem_cons_succ, List.setIfInBounds_toArray, List.set_cons_zero, List.set_cons_succ])
  refine held_take (fun _ => trivial) (by kernel_rfl) (i := 10) (oi := _) (v := .agg (bv S)) rfl (by kernel_rfl) (by kernel_rfl) (by kernel_rfl) (fun _ _ _ h => h) (by assumption) (Or.inl ⟨by kernel_rfl, ?_⟩) ?_
  · intro wz hSw; exact exec_load_row 27 (.tmp 13) (by kernel_rfl) (w4.heap.size + 1) (by kernel_rfl) _ _ _ _ (BigAt.below hSw Rs.out) Try.underlying27 (by kernel_rfl) (bv_info _)
  (try simp only [Act.put, List.getElem_toArray, List.getElem_cons_zero, List.getElem_cons_succ, List.setIfInBounds_toArray, List.set_cons_zero, List.set_cons_succ])
  refine held_step (fun _ => trivial) (i := 9) (o := _) (by kernel_rfl) rfl (fun K hK => ?_)
  go_simp
  refine ⟨trivial, callsIn_wide.2 ((cOr.out _).mono ?_)⟩
  rintro e y1 ⟨rfl, hb1⟩
  dsimp only
  refine hK.out _ _ (bnext hHeld hb1) (fun hHeld => ?_)
  clear hK K
  (try simp only [Act.put, List.getElem_toArray, List.getElem_cons_zero, List.getElem_cons_succ, List.setIfInBounds_toArray, List.set_cons_zero, List.set_cons_succ])
  refine held_take (fun _ => trivial) (by kernel_rfl) (i := 11) (oi := _) (v := ?_) rfl (by kernel_rfl) (by kernel_rfl) (by kernel_rfl) (fun _ _ _ h => h) (by assumption) (Or.inl ⟨by kernel_rfl, ?_⟩) ?_
  rotate_left
  · intro wz hSw; (first | (go_simp; done) | (go_simp; with_reducible rfl))
  (try simp only [Act.put, List.getElem_toArray, List.getElem_cons_zero, List.getElem_cons_succ, List.setIfInBounds_toArray, List.set_cons_zero, List.set_cons_succ])
  refine held_take (fun _ => trivial) (by kernel_rfl) (i := 12) (oi := _) (v := ?_) rfl (by kernel_rfl) (by kernel_rfl) (by kernel_rfl) (fun _ _ _ h => h) (by assumption) (Or.inl ⟨by kernel_rfl, ?_⟩) ?_
  rotate_left
  · intro wz hSw; (first | (go_simp; done) | (go_simp; with_reducible rfl))
  (try simp only [Act.put, List.getElem_toArray, List.getElem_cons_zero, List.getElem_cons_succ, List.setIfInBounds_toArray, List.set_cons_zero, List.set_cons_succ])
  refine held_done (by kernel_rfl) ?_ _
  refine hK10 _ _ ?_
  have HBn : Hid (Below w.heap.size w y1) := Lib.hid (bnext HB.out hHeld)
  clear HB
  have HB := HBn
  clear HBn
  replace Rx : Hid (WideAt (w.heap.size) xh xl y1) := Lib.hid (WideAt.below hHeld Rx.out)
  replace Rq : Hid (WideAt (w1.heap.size) qh ql y1) := Lib.hid (WideAt.below hHeld Rq.out)
  replace Rp : Hid (BigAt (w4.heap.size) P y1) := Lib.hid (BigAt.below hHeld Rp.out)
  replace Rs : Hid (BigAt (w4.heap.size + 1) S y1) := Lib.hid (BigAt.below hHeld Rs.out)
  replace Rv : Hid (WideAt (w5.heap.size) qh ql y1) := Lib.hid (WideAt.below hHeld Rv.out)
  clear hHeld hb1 hK10 K10 hnb
  go_wp2_with fail
  refine (cOa.out _).mono ?_
  rintro e w7a ⟨rfl, hbn⟩
  have Bn := bnext HB.out hbn
  have HBn : Hid (Below w.heap.size w w7a) := Lib.hid (Bn)
  clear HB
  have HB := HBn
  clear HBn
  replace Rx : Hid (WideAt (w.heap.size) xh xl w7a) := Lib.hid (WideAt.below hbn Rx.out)
  replace Rq : Hid (WideAt (w1.heap.size) qh ql w7a) := Lib.hid (WideAt.below hbn Rq.out)
  replace Rp : Hid (BigAt (w4.heap.size) P w7a) := Lib.hid (BigAt.below hbn Rp.out)
  replace Rs : Hid (BigAt (w4.heap.size + 1) S w7a) := Lib.hid (BigAt.below hbn Rs.out)
  replace Rv : Hid (WideAt (w5.heap.size) qh ql w7a) := Lib.hid (WideAt.below hbn Rv.out)
  clear hbn Bn
  go_wp2_with fail
  refine (cOb.out _).mono ?_
  rintro e w7b ⟨rfl, hbn⟩
  have Bn := bnext HB.out hbn
  have HBn : Hid (Below w.heap.size w w7b) := Lib.hid (Bn)
  clear HB
  have HB := HBn
  clear HBn
  replace Rx : Hid (WideAt (w.heap.size) xh xl w7b) := Lib.hid (WideAt.below hbn Rx.out)
  replace Rq : Hid (WideAt (w1.heap.size) qh ql w7b) := Lib.hid (WideAt.below hbn Rq.out)
  replace Rp : Hid (BigAt (w4.heap.size) P w7b) := Lib.hid (BigAt.below hbn Rp.out)
  replace Rs : Hid (BigAt (w4.heap.size + 1) S w7b) := Lib.hid (BigAt.below hbn Rs.out)
  replace Rv : Hid (WideAt (w5.heap.size) qh ql w7b) := Lib.hid (WideAt.below hbn Rv.out)
  clear hbn Bn
  go_wp2_with fail
  refine (cMu.out _).mono ?_
  rintro e w7c ⟨rfl, hbn⟩
  have Bn := bnext HB.out hbn
  have HBn : Hid (Below w.heap.size w w7c) := Lib.hid (Bn)
  clear HB
  have HB := HBn
  clear HBn
  replace Rx : Hid (WideAt (w.heap.size) xh xl w7c) := Lib.hid (WideAt.below hbn Rx.out)
  replace Rq : Hid (WideAt (w1.heap.size) qh ql w7c) := Lib.hid (WideAt.below hbn Rq.out)
  replace Rp : Hid (BigAt (w4.heap.size) P w7c) := Lib.hid (BigAt.below hbn Rp.out)
  replace Rs : Hid (BigAt (w4.heap.size + 1) S w7c) := Lib.hid (BigAt.below hbn Rs.out)
  replace Rv : Hid (WideAt (w5.heap.size) qh ql w7c) := Lib.hid (WideAt.below hbn Rv.out)
  clear hbn Bn
  go_wp2_with fail
  refine (cOc.out _).mono ?_
  rintro e w7d ⟨rfl, hbn⟩
  have Bn := bnext HB.out hbn
  have HBn : Hid (Below w.heap.size w w7d) := Lib.hid (Bn)
  clear HB
  have HB := HBn
  clear HBn
  replace Rx : Hid (WideAt (w.heap.size) xh xl w7d) := Lib.hid (WideAt.below hbn Rx.out)
  replace Rq : Hid (WideAt (w1.heap.size) qh ql w7d) := Lib.hid (WideAt.below hbn Rq.out)
  replace Rp : Hid (BigAt (w4.heap.size) P w7d) := Lib.hid (BigAt.below hbn Rp.out)
  replace Rs : Hid (BigAt (w4.heap.size + 1) S w7d) := Lib.hid (BigAt.below hbn Rs.out)
  replace Rv : Hid (WideAt (w5.heap.size) qh ql w7d) := Lib.hid (WideAt.below hbn Rv.out)
  clear hbn Bn
  go_wp2_with fail
  refine (cD2.out _).mono ?_
  rintro e w7e ⟨rfl, hbn⟩
  have Bn := bnext HB.out hbn
  have Z1 : Hid (BigAt (w7e.heap.size) 0 ((w7e.alloc (.cells #[.bool false, .int .u64 0, .int .u64 0, .int .u64 0, .int .u64 0, .int .u64 0, .int .u64 0, .int .u64 0, .int .u64 0, .int .u64 0, .int .u64 0, .int .u64 0, .int .u64 0, .int .u64 0, .int .u64 0, .int .u64 0, .int .u64 0, .int .u64 0, .int .u64 0, .int .u64 0, .int .u64 0] 27)).alloc (.cells #[.bool false, .int .u64 0, .int .u64 0, .int .u64 0, .int .u64 0, .int .u64 0, .int .u64 0, .int .u64 0, .int .u64 0, .int .u64 0, .int .u64 0, .int .u64 0, .int .u64 0, .int .u64 0, .int .u64 0, .int .u64 0, .int .u64 0, .int .u64 0, .int .u64 0, .int .u64 0, .int .u64 0] 27))) := Lib.hid (step_row (heap_alloc_new _ _))
  have Z2 : Hid (BigAt (w7e.heap.size + 1) 0 (((w7e.alloc (.cells #[.bool false, .int .u64 0, .int .u64 0, .int .u64 0, .int .u64 0, .int .u64 0, .int .u64 0, .int .u64 0, .int .u64 0, .int .u64 0, .int .u64 0, .int .u64 0, .int .u64 0, .int .u64 0, .int .u64 0, .int .u64 0, .int .u64 0, .int .u64 0, .int .u64 0, .int .u64 0, .int .u64 0] 27)).alloc (.cells #[.bool false, .int .u64 0, .int .u64 0, .int .u64 0, .int .u64 0, .int .u64 0, .int .u64 0, .int .u64 0, .int .u64 0, .int .u64 0, .int .u64 0, .int .u64 0, .int .u64 0, .int .u64 0, .int .u64 0, .int .u64 0, .int .u64 0, .int .u64 0, .int .u64 0, .int .u64 0, .int .u64 0] 27)).setRow (w7e.heap.size) (bv M))) := Lib.hid (BigAt.other (k := w7e.heap.size) (show BigAt (w7e.heap.size + 1) 0 ((w7e.alloc (.cells #[.bool false, .int .u64 0, .int .u64 0, .int .u64 0, .int .u64 0, .int .u64 0, .int .u64 0, .int .u64 0, .int .u64 0, .int .u64 0, .int .u64 0, .int .u64 0, .int .u64 0, .int .u64 0, .int .u64 0, .int .u64 0, .int .u64 0, .int .u64 0, .int .u64 0, .int .u64 0, .int .u64 0] 27)).alloc (.cells #[.bool false, .int .u64 0, .int .u64 0, .int .u64 0, .int .u64 0, .int .u64 0, .int .u64 0, .int .u64 0, .int .u64 0, .int .u64 0, .int .u64 0, .int .u64 0, .int .u64 0, .int .u64 0, .int .u64 0, .int .u64 0, .int .u64 0, .int .u64 0, .int .u64 0, .int .u64 0, .int .u64 0] 27)) from heap_alloc2_new _ _ _) (by omega) _)
  have Bz : Below w7e.heap.size w7e ((((w7e.alloc (.cells #[.bool false, .int .u64 0, .int .u64 0, .int .u64 0, .int .u64 0, .int .u64 0, .int .u64 0, .int .u64 0, .int .u64 0, .int .u64 0, .int .u64 0, .int .u64 0, .int .u64 0, .int .u64 0, .int .u64 0, .int .u64 0, .int .u64 0, .int .u64 0, .int .u64 0, .int .u64 0, .int .u64 0] 27)).alloc (.cells #[.bool false, .int .u64 0, .int .u64 0, .int .u64 0, .int .u64 0, .int .u64 0, .int .u64 0, .int .u64 0, .int .u64 0, .int .u64 0, .int .u64 0, .int .u64 0, .int .u64 0, .int .u64 0, .int .u64 0, .int .u64 0, .int .u64 0, .int .u64 0, .int .u64 0, .int .u64 0, .int .u64 0] 27)).setRow (w7e.heap.size) (bv M)).setRow (w7e.heap.size + 1) (bv N)) := Below.row (Below.row (by go_grown) (Nat.le_refl _) _) (by omega) _
  have HBn : Hid (Below w.heap.size w ((((w7e.alloc (.cells #[.bool false, .int .u64 0, .int .u64 0, .int .u64 0, .int .u64 0, .int .u64 0, .int .u64 0, .int .u64 0, .int .u64 0, .int .u64 0, .int .u64 0, .int .u64 0, .int .u64 0, .int .u64 0, .int .u64 0, .int .u64 0, .int .u64 0, .int .u64 0, .int .u64 0, .int .u64 0, .int .u64 0] 27)).alloc (.cells #[.bool false, .int .u64 0, .int .u64 0, .int .u64 0, .int .u64 0, .int .u64 0, .int .u64 0, .int .u64 0, .int .u64 0, .int .u64 0, .int .u64 0, .int .u64 0, .int .u64 0, .int .u64 0, .int .u64 0, .int .u64 0, .int .u64 0, .int .u64 0, .int .u64 0, .int .u64 0, .int .u64 0] 27)).setRow (w7e.heap.size) (bv M)).setRow (w7e.heap.size + 1) (bv N))) := Lib.hid (bnext Bn Bz)
  clear HB
  have HB := HBn
  clear HBn
  replace Rx : Hid (WideAt (w.heap.size) xh xl ((((w7e.alloc (.cells #[.bool false, .int .u64 0, .int .u64 0, .int .u64 0, .int .u64 0, .int .u64 0, .int .u64 0, .int .u64 0, .int .u64 0, .int .u64 0, .int .u64 0, .int .u64 0, .int .u64 0, .int .u64 0, .int .u64 0, .int .u64 0, .int .u64 0, .int .u64 0, .int .u64 0, .int .u64 0, .int .u64 0] 27)).alloc (.cells #[.bool false, .int .u64 0, .int .u64 0, .int .u64 0, .int .u64 0, .int .u64 0, .int .u64 0, .int .u64 0, .int .u64 0, .int .u64 0, .int .u64 0, .int .u64 0, .int .u64 0, .int .u64 0, .int .u64 0, .int .u64 0, .int .u64 0, .int .u64 0, .int .u64 0, .int .u64 0, .int .u64 0] 27)).setRow (w7e.heap.size) (bv M)).setRow (w7e.heap.size + 1) (bv N))) := Lib.hid (WideAt.below Bz (WideAt.below hbn Rx.out))
  replace Rq : Hid (WideAt (w1.heap.size) qh ql ((((w7e.alloc (.cells #[.bool false, .int .u64 0, .int .u64 0, .int .u64 0, .int .u64 0, .int .u64 0, .int .u64 0, .int .u64 0, .int .u64 0, .int .u64 0, .int .u64 0, .int .u64 0, .int .u64 0, .int .u64 0, .int .u64 0, .int .u64 0, .int .u64 0, .int .u64 0, .int .u64 0, .int .u64 0, .int .u64 0] 27)).alloc (.cells #[.bool false, .int .u64 0, .int .u64 0, .int .u64 0, .int .u64 0, .int .u64 0, .int .u64 0, .int .u64 0, .int .u64 0, .int .u64 0, .int .u64 0, .int .u64 0, .int .u64 0, .int .u64 0, .int .u64 0, .int .u64 0, .int .u64 0, .int .u64 0, .int .u64 0, .int .u64 0, .int .u64 0] 27)).setRow (w7e.heap.size) (bv M)).setRow (w7e.heap.size + 1) (bv N))) := Lib.hid (WideAt.below Bz (WideAt.below hbn Rq.out))
  replace Rp : Hid (BigAt (w4.heap.size) P ((((w7e.alloc (.cells #[.bool false, .int .u64 0, .int .u64 0, .int .u64 0, .int .u64 0, .int .u64 0, .int .u64 0, .int .u64 0, .int .u64 0, .int .u64 0, .int .u64 0, .int .u64 0, .int .u64 0, .int .u64 0, .int .u64 0, .int .u64 0, .int .u64 0, .int .u64 0, .int .u64 0, .int .u64 0, .int .u64 0] 27)).alloc (.cells #[.bool false, .int .u64 0, .int .u64 0, .int .u64 0, .int .u64 0, .int .u64 0, .int .u64 0, .int .u64 0, .int .u64 0, .int .u64 0, .int .u64 0, .int .u64 0, .int .u64 0, .int .u64 0, .int .u64 0, .int .u64 0, .int .u64 0, .int .u64 0, .int .u64 0, .int .u64 0, .int .u64 0] 27)).setRow (w7e.heap.size) (bv M)).setRow (w7e.heap.size + 1) (bv N))) := Lib.hid (BigAt.below Bz (BigAt.below hbn Rp.out))
  replace Rs : Hid (BigAt (w4.heap.size + 1) S ((((w7e.alloc (.cells #[.bool false, .int .u64 0, .int .u64 0, .int .u64 0, .int .u64 0, .int .u64 0, .int .u64 0, .int .u64 0, .int .u64 0, .int .u64 0, .int .u64 0, .int .u64 0, .int .u64 0, .int .u64 0, .int .u64 0, .int .u64 0, .int .u64 0, .int .u64 0, .int .u64 0, .int .u64 0, .int .u64 0] 27)).alloc (.cells #[.bool false, .int .u64 0, .int .u64 0, .int .u64 0, .int .u64 0, .int .u64 0, .int .u64 0, .int .u64 0, .int .u64 0, .int .u64 0, .int .u64 0, .int .u64 0, .int .u64 0, .int .u64 0, .int .u64 0, .int .u64 0, .int .u64 0, .int .u64 0, .int .u64 0, .int .u64 0, .int .u64 0] 27)).setRow (w7e.heap.size) (bv M)).setRow (w7e.heap.size + 1) (bv N))) := Lib.hid (BigAt.below Bz (BigAt.below hbn Rs.out))
  replace Rv : Hid (WideAt (w5.heap.size) qh ql ((((w7e.alloc (.cells #[.bool false, .int .u64 0, .int .u64 0, .int .u64 0, .int .u64 0, .int .u64 0, .int .u64 0, .int .u64 0, .int .u64 0, .int .u64 0, .int .u64 0, .int .u64 0, .int .u64 0, .int .u64 0, .int .u64 0, .int .u64 0, .int .u64 0, .int .u64 0, .int .u64 0, .int .u64 0, .int .u64 0] 27)).alloc (.cells #[.bool false, .int .u64 0, .int .u64 0, .int .u64 0, .int .u64 0, .int .u64 0, .int .u64 0, .int .u64 0, .int .u64 0, .int .u64 0, .int .u64 0, .int .u64 0, .int .u64 0, .int .u64 0, .int .u64 0, .int .u64 0, .int .u64 0, .int .u64 0, .int .u64 0, .int .u64 0, .int .u64 0] 27)).setRow (w7e.heap.size) (bv M)).setRow (w7e.heap.size + 1) (bv N))) := Lib.hid (WideAt.below Bz (WideAt.below hbn Rv.out))
  have Rm : Hid (BigAt (w7e.heap.size) M ((((w7e.alloc (.cells #[.bool false, .int .u64 0, .int .u64 0, .int .u64 0, .int .u64 0, .int .u64 0, .int .u64 0, .int .u64 0, .int .u64 0, .int .u64 0, .int .u64 0, .int .u64 0, .int .u64 0, .int .u64 0, .int .u64 0, .int .u64 0, .int .u64 0, .int .u64 0, .int .u64 0, .int .u64 0, .int .u64 0] 27)).alloc (.cells #[.bool false, .int .u64 0, .int .u64 0, .int .u64 0, .int .u64 0, .int .u64 0, .int .u64 0, .int .u64 0, .int .u64 0, .int .u64 0, .int .u64 0, .int .u64 0, .int .u64 0, .int .u64 0, .int .u64 0, .int .u64 0, .int .u64 0, .int .u64 0, .int .u64 0, .int .u64 0, .int .u64 0] 27)).setRow (w7e.heap.size) (bv M)).setRow (w7e.heap.size + 1) (bv N))) := Lib.hid (BigAt.other (k := w7e.heap.size + 1) (BigAt.row Z1.out M) (by omega) _)
  have Rn : Hid (BigAt (w7e.heap.size + 1) N ((((w7e.alloc (.cells #[.bool false, .int .u64 0, .int .u64 0, .int .u64 0, .int .u64 0, .int .u64 0, .int .u64 0, .int .u64 0, .int .u64 0, .int .u64 0, .int .u64 0, .int .u64 0, .int .u64 0, .int .u64 0, .int .u64 0, .int .u64 0, .int .u64 0, .int .u64 0, .int .u64 0, .int .u64 0, .int .u64 0] 27)).alloc (.cells #[.bool false, .int .u64 0, .int .u64 0, .int .u64 0, .int .u64 0, .int .u64 0, .int .u64 0, .int .u64 0, .int .u64 0, .int .u64 0, .int .u64 0, .int .u64 0, .int .u64 0, .int .u64 0, .int .u64 0, .int .u64 0, .int .u64 0, .int .u64 0, .int .u64 0, .int .u64 0, .int .u64 0] 27)).setRow (w7e.heap.size) (bv M)).setRow (w7e.heap.size + 1) (bv N))) := Lib.hid (BigAt.row Z2.out N)
  clear hbn Bn Bz
  go_wp2_with (first | (refine wpList_store_big rfl 27 (.tmp 19) (.tmp 101) rfl (w7e.heap.size) _ _ (bv M) rfl rfl Z1.out (bv_info _) (bv_same _ _) (bv_one _) ?_) | (refine wpList_store_big rfl 27 (.tmp 20) (.tmp 102) rfl (w7e.heap.size + 1) _ _ (bv N) rfl rfl Z2.out (bv_info _) (bv_same _ _) (bv_one _) ?_))
  generalize ((((w7e.alloc (.cells #[.bool false, .int .u64 0, .int .u64 0, .int .u64 0, .int .u64 0, .int .u64 0, .int .u64 0, .int .u64 0, .int .u64 0, .int .u64 0, .int .u64 0, .int .u64 0, .int .u64 0, .int .u64 0, .int .u64 0, .int .u64 0, .int .u64 0, .int .u64 0, .int .u64 0, .int .u64 0, .int .u64 0] 27)).alloc (.cells #[.bool false, .int .u64 0, .int .u64 0, .int .u64 0, .int .u64 0, .int .u64 0, .int .u64 0, .int .u64 0, .int .u64 0, .int .u64 0, .int .u64 0, .int .u64 0, .int .u64 0, .int .u64 0, .int .u64 0, .int .u64 0, .int .u64 0, .int .u64 0, .int .u64 0, .int .u64 0, .int .u64 0] 27)).setRow (w7e.heap.size) (bv M)).setRow (w7e.heap.size + 1) (bv N)) = V at Rx Rq Rp Rs Rv Rm Rn HB ⊢
  clear Z1 Z2
  rename_i K13 hK13
  refine (wpIn_wide (n := 5)).1 (held_region (F := Fence.wide) (S := fun X => Below V.heap.size V X) (by kernel_rfl) (bdrew0 _ _ 1) (fun hHeld => ?_))
  refine held_take (fun _ => trivial) (by kernel_rfl) (i := 0) (oi := _) (v := .agg (bv M)) rfl (by kernel_rfl) (by kernel_rfl) (by kernel_rfl) (fun _ _ _ h => h) (by assumption) (Or.inl ⟨by kernel_rfl, ?_⟩) ?_
  · intro wz hSw; exact exec_load_row 27 (.tmp 19) (by kernel_rfl) (w7e.heap.size) (by kernel_rfl) _ _ _ _ (BigAt.below hSw Rm.out) Try.underlying27 (by kernel_rfl) (bv_info _)
  (try simp only [Act.put, List.getElem_toArray, List.getElem_cons_zero, List.getElem_cons_succ, List.setIfInBounds_toArray, List.set_cons_zero, List.set_cons_succ])
  refine held_step (fun _ => trivial) (i := 1) (o := _) (by kernel_rfl) rfl (fun K hK => ?_)
  go_simp
  refine ⟨trivial, callsIn_wide.2 ((cTw.out _).mono ?_)⟩
  rintro e x1 ⟨rfl, hb1⟩
  dsimp only
  refine hK.out _ _ (bnext hHeld hb1) (fun hHeld => ?_)
  clear hK K
  (try simp only [Act.put, List.getElem_toArray, List.getElem_cons_zero, List.getElem_cons_succ, List.setIfInBounds_toArray, List.set_cons_zero, List.set_cons_succ])
  refine held_step (fun _ => trivial) (i := 2) (o := _) (by kernel_rfl) rfl (fun K hK => ?_)
  go_simp
  refine ⟨trivial, callsIn_wide.2 ((cNt.out _).mono ?_)⟩
  rintro e x2 ⟨rfl, hb2⟩
  dsimp only
  refine hK.out _ _ (bnext hHeld hb2) (fun hHeld => ?_)
  clear hK K
  (try simp only [Act.put, List.getElem_toArray, List.getElem_cons_zero, List.getElem_cons_succ, List.setIfInBounds_toArray, List.set_cons_zero, List.set_cons_succ])
  refine held_step (fun _ => trivial) (i := 3) (o := _) (by kernel_rfl) rfl (fun K hK => ?_)
  go_simp
  refine ⟨trivial, callsIn_wide.2 ((cL3.out _).mono ?_)⟩
  rintro e x3 ⟨rfl, hb3⟩
  dsimp only
  refine hK.out _ _ (bnext hHeld hb3) (fun hHeld => ?_)
  clear hK K
  (try simp only [Act.put, List.getElem_toArray, List.getElem_cons_zero, List.getElem_cons_succ, List.setIfInBounds_toArray, List.set_cons_zero, List.set_cons_succ])
  refine held_take (fun _ => trivial) (by kernel_rfl) (i := 4) (oi := _) (v := ?_) rfl (by kernel_rfl) (by kernel_rfl) (by kernel_rfl) (fun _ _ _ h => h) (by assumption) (Or.inl ⟨by kernel_rfl, ?_⟩) ?_
  rotate_left
  · intro wz hSw; (first | (go_simp; done) | (go_simp; with_reducible rfl))
  (try simp only [Act.put, List.getElem_toArray, List.getElem_cons_zero, List.getElem_cons_succ, List.setIfInBounds_toArray, List.set_cons_zero, List.set_cons_succ])
  refine held_take (fun _ => trivial) (by kernel_rfl) (i := 5) (oi := _) (v := ?_) rfl (by kernel_rfl) (by kernel_rfl) (by kernel_rfl) (fun _ _ _ h => h) (by assumption) (Or.inl ⟨by kernel_rfl, ?_⟩) ?_
  rotate_left
  · intro wz hSw; (first | (go_simp; done) | (go_simp; with_reducible rfl))
  (try simp only [Act.put, List.getElem_toArray, List.getElem_cons_zero, List.getElem_cons_succ, List.setIfInBounds_toArray, List.set_cons_zero, List.set_cons_succ])
  refine held_take (fun _ => trivial) (by kernel_rfl) (i := 6) (oi := _) (v := .agg (bv M)) rfl (by kernel_rfl) (by kernel_rfl) (by kernel_rfl) (fun _ _ _ h => h) (by assumption) (Or.inl ⟨by kernel_rfl, ?_⟩) ?_
  · intro wz hSw; exact exec_load_row 27 (.tmp 19) (by kernel_rfl) (w7e.heap.size) (by kernel_rfl) _ _ _ _ (BigAt.below hSw Rm.out) Try.underlying27 (by kernel_rfl) (bv_info _)
  (try simp only [Act.put, List.getElem_toArray, List.getElem_cons_zero, List.getElem_cons_succ, List.setIfInBounds_toArray, List.set_cons_zero, List.set_cons_succ])
  refine held_step (fun _ => trivial) (i := 7) (o := _) (by kernel_rfl) rfl (fun K hK => ?_)
  go_simp
  refine ⟨trivial, callsIn_wide.2 ((cTw.out _).mono ?_)⟩
  rintro e x4 ⟨rfl, hb4⟩
  dsimp only
  refine hK.out _ _ (bnext hHeld hb4) (fun hHeld => ?_)
  clear hK K
  (try simp only [Act.put, List.getElem_toArray, List.getElem_cons_zero, List.getElem_cons_succ, List.setIfInBounds_toArray, List.set_cons_zero, List.set_cons_succ])
  refine held_step (fun _ => trivial) (i := 8) (o := _) (by kernel_rfl) rfl (fun K hK => ?_)
  go_simp
  refine ⟨trivial, callsIn_wide.2 ((cL4.out _).mono ?_)⟩
  rintro e x5 ⟨rfl, hb5⟩
  dsimp only
  refine hK.out _ _ (bnext hHeld hb5) (fun hHeld => ?_)
  clear hK K
  (try simp only [Act.put, List.getElem_toArray, List.getElem_cons_zero, List.getElem_cons_succ, List.setIfInBounds_toArray, List.set_cons_zero, List.set_cons_succ])
  refine held_take (fun _ => trivial) (by kernel_rfl) (i := 9) (oi := _) (v := ?_) rfl (by kernel_rfl) (by kernel_rfl) (by kernel_rfl) (fun _ _ _ h => h) (by assumption) (Or.inl ⟨by kernel_rfl, ?_⟩) ?_
  rotate_left
  · intro wz hSw; (first | (go_simp; done) | (go_simp; with_reducible rfl))
  (try simp only [Act.put, List.getElem_toArray, List.getElem_cons_zero, List.getElem_cons_succ, List.setIfInBounds_toArray, List.set_cons_zero, List.set_cons_succ])
  refine held_take (fun _ => trivial) (by kernel_rfl) (i := 10) (oi := _) (v := ?_) rfl (by kernel_rfl) (by kernel_rfl) (by kernel_rfl) (fun _ _ _ h => h) (by assumption) (Or.inl ⟨by kernel_rfl, ?_⟩) ?_
  rotate_left
  · intro wz hSw; (first | (go_simp; done) | (go_simp; with_reducible rfl))
  (try simp only [Act.put, List.getElem_toArray, List.getElem_cons_zero, List.getElem_cons_succ, List.setIfInBounds_toArray, List.set_cons_zero, List.set_cons_succ])
  refine held_done (by kernel_rfl) ?_ _
  refine hK13 _ _ ?_
  have HBn : Hid (Below w.heap.size w x5) := Lib.hid (bnext HB.out hHeld)
  clear HB
  have HB := HBn
  clear HBn
  replace Rx : Hid (WideAt (w.heap.size) xh xl x5) := Lib.hid (WideAt.below hHeld Rx.out)
  replace Rq : Hid (WideAt (w1.heap.size) qh ql x5) := Lib.hid (WideAt.below hHeld Rq.out)
  replace Rp : Hid (BigAt (w4.heap.size) P x5) := Lib.hid (BigAt.below hHeld Rp.out)
  replace Rs : Hid (BigAt (w4.heap.size + 1) S x5) := Lib.hid (BigAt.below hHeld Rs.out)
  replace Rv : Hid (WideAt (w5.heap.size) qh ql x5) := Lib.hid (WideAt.below hHeld Rv.out)
  replace Rm : Hid (BigAt (w7e.heap.size) M x5) := Lib.hid (BigAt.below hHeld Rm.out)
  replace Rn : Hid (BigAt (w7e.heap.size + 1) N x5) := Lib.hid (BigAt.below hHeld Rn.out)
  clear hK13 hHeld hb1 hb2 hb3 hb4 hb5
  go_wp2_with fail
  rename_i K14 hK14
  have heb := fun W => eq_big M W
  refine (wpIn_wide (n := 5)).1 (held_region (F := Fence.wide) (S := fun X => Below x5.heap.size x5 X) (by kernel_rfl) (bdrew0 _ _ 1) (fun hHeld => ?_))
  refine held_take (fun _ => trivial) (by kernel_rfl) (i := 0) (oi := _) (v := ?_) rfl (by kernel_rfl) (by kernel_rfl) (by kernel_rfl) (fun _ _ _ h => h) (by assumption) (Or.inl ⟨by kernel_rfl, ?_⟩) ?_
  rotate_left
  · intro wz hSw; (first | (go_simp; done) | (go_simp; with_reducible rfl))
  (try simp only [Act.put, List.getElem_toArray, List.getElem_cons_zero, List.getElem_cons_succ, List.setIfInBounds_toArray, List.set_cons_zero, List.set_cons_succ])
  refine held_take (fun _ => trivial) (by kernel_rfl) (i := 1) (oi := _) (v := ?_) rfl (by kernel_rfl) (by kernel_rfl) (by kernel_rfl) (fun _ _ _ h => h) (by assumption) (Or.inl ⟨by kernel_rfl, ?_⟩) ?_
  rotate_left
  · intro wz hSw; (first | (go_simp; done) | (go_simp; with_reducible rfl))
  (try simp only [Act.put, List.getElem_toArray, List.getElem_cons_zero, List.getElem_cons_succ, List.setIfInBounds_toArray, List.set_cons_zero, List.set_cons_succ])
  refine held_take (fun _ => trivial) (by kernel_rfl) (i := 2) (oi := _) (v := ?_) rfl (by kernel_rfl) (by kernel_rfl) (by kernel_rfl) (fun _ _ _ h => h) (by assumption) (Or.inl ⟨by kernel_rfl, ?_⟩) ?_
  rotate_left
  · intro wz hSw; (first | (go_simp; done) | (go_simp; with_reducible rfl))
  (try simp only [Act.put, List.getElem_toArray, List.getElem_cons_zero, List.getElem_cons_succ, List.setIfInBounds_toArray, List.set_cons_zero, List.set_cons_succ])
  refine held_take (fun _ => trivial) (by kernel_rfl) (i := 3) (oi := _) (v := ?_) rfl (by kernel_rfl) (by kernel_rfl) (by kernel_rfl) (fun _ _ _ h => h) (by assumption) (Or.inl ⟨by kernel_rfl, ?_⟩) ?_
  rotate_left
  · intro wz hSw; (first | (go_simp; done) | (go_simp; with_reducible rfl))
  (try simp only [Act.put, List.getElem_toArray, List.getElem_cons_zero, List.getElem_cons_succ, List.setIfInBounds_toArray, List.set_cons_zero, List.set_cons_succ])
  refine held_take (fun _ => trivial) (by kernel_rfl) (i := 4) (oi := _) (v := ?_) rfl (by kernel_rfl) (by kernel_rfl) (by kernel_rfl) (fun _ _ _ h => h) (by assumption) (Or.inl ⟨by kernel_rfl, ?_⟩) ?_
  rotate_left
  · intro wz hSw; (first | (go_simp; done) | (go_simp; with_reducible rfl))
  (try simp only [Act.put, List.getElem_toArray, List.getElem_cons_zero, List.getElem_cons_succ, List.setIfInBounds_toArray, List.set_cons_zero, List.set_cons_succ])
  refine held_take (fun _ => trivial) (by kernel_rfl) (i := 5) (oi := _) (v := ?_) rfl (by kernel_rfl) (by kernel_rfl) (by kernel_rfl) (fun _ _ _ h => h) (by assumption) (Or.inl ⟨by kernel_rfl, ?_⟩) ?_
  rotate_left
  · intro wz hSw; (first | (go_simp; done) | (go_simp; with_reducible rfl))
  (try simp only [Act.put, List.getElem_toArray, List.getElem_cons_zero, List.getElem_cons_succ, List.setIfInBounds_toArray, List.set_cons_zero, List.set_cons_succ])
  refine held_take (fun _ => trivial) (by kernel_rfl) (i := 6) (oi := _) (v := ?_) rfl (by kernel_rfl) (by kernel_rfl) (by kernel_rfl) (fun _ _ _ h => h) (by assumption) (Or.inl ⟨by kernel_rfl, ?_⟩) ?_
  rotate_left
  · intro wz hSw; (first | (go_simp; done) | (go_simp; with_reducible rfl))
  (try simp only [Act.put, List.getElem_toArray, List.getElem_cons_zero, List.getElem_cons_succ, List.setIfInBounds_toArray, List.set_cons_zero, List.set_cons_succ])
  refine held_take (fun _ => trivial) (by kernel_rfl) (i := 8) (oi := _) (v := .agg (bv M)) rfl (by kernel_rfl) (by kernel_rfl) (by kernel_rfl) (fun _ _ _ h => h) (by assumption) (Or.inl ⟨by kernel_rfl, ?_⟩) ?_
  · intro wz hSw; exact exec_load_row 27 (.tmp 19) (by kernel_rfl) (w7e.heap.size) (by kernel_rfl) _ _ _ _ (BigAt.below hSw Rm.out) Try.underlying27 (by kernel_rfl) (bv_info _)
  (try simp only [Act.put, List.getElem_toArray, List.getElem_cons_zero, List.getElem_cons_succ, List.setIfInBounds_toArray, List.set_cons_zero, List.set_cons_succ])
  refine held_step (fun _ => trivial) (i := 7) (o := _) (by kernel_rfl) rfl (fun K hK => ?_)
  go_simp
  refine ⟨trivial, callsIn_wide.2 ((cOn.out _).mono ?_)⟩
  rintro e y2 ⟨rfl, hc2⟩
  dsimp only
  refine hK.out _ _ (bnext hHeld hc2) (fun hHeld => ?_)
  clear hK K
  (try simp only [Act.put, List.getElem_toArray, List.getElem_cons_zero, List.getElem_cons_succ, List.setIfInBounds_toArray, List.set_cons_zero, List.set_cons_succ])
  refine held_take (fun _ => trivial) (by kernel_rfl) (i := 9) (oi := _) (v := ?_) rfl (by kernel_rfl) (by kernel_rfl) (by kernel_rfl) (fun _ _ _ h => h) (by assumption) (Or.inl ⟨by kernel_rfl, ?_⟩) ?_
  rotate_left
  · intro wz hSw; (first | (go_simp; done) | (go_simp; with_reducible rfl))
  (try simp only [Act.put, List.getElem_toArray, List.getElem_cons_zero, List.getElem_cons_succ, List.setIfInBounds_toArray, List.set_cons_zero, List.set_cons_succ])
  refine held_take (fun _ => trivial) (by kernel_rfl) (i := 10) (oi := _) (v := ?_) rfl (by kernel_rfl) (by kernel_rfl) (by kernel_rfl) (fun _ _ _ h => h) (by assumption) (Or.inl ⟨by kernel_rfl, ?_⟩) ?_
  rotate_left
  · intro wz hSw; (first | (go_simp; done) | (go_simp; with_reducible rfl))
  (try simp only [Act.put, List.getElem_toArray, List.getElem_cons_zero, List.getElem_cons_succ, List.setIfInBounds_toArray, List.set_cons_zero, List.set_cons_succ])
  refine held_take (fun _ => trivial) (by kernel_rfl) (i := 11) (oi := _) (v := ?_) rfl (by kernel_rfl) (by kernel_rfl) (by kernel_rfl) (fun _ _ _ h => h) (by assumption) (Or.inl ⟨by kernel_rfl, ?_⟩) ?_
  rotate_left
  · intro wz hSw; (first | (go_simp; done) | (go_simp; with_reducible rfl))
  (try simp only [Act.put, List.getElem_toArray, List.getElem_cons_zero, List.getElem_cons_succ, List.setIfInBounds_toArray, List.set_cons_zero, List.set_cons_succ])
  refine held_take (fun _ => trivial) (by kernel_rfl) (i := 12) (oi := _) (v := undef) rfl (by kernel_rfl) (by kernel_rfl) (by kernel_rfl) (fun _ _ _ h => h) (by assumption) (Or.inr ⟨by kernel_rfl, rfl⟩) ?_
  (try simp only [Act.put, List.getElem_toArray, List.getElem_cons_zero, List.getElem_cons_succ, List.setIfInBounds_toArray, List.set_cons_zero, List.set_cons_succ])
  refine held_take (fun _ => trivial) (by kernel_rfl) (i := 13) (oi := _) (v := undef) rfl (by kernel_rfl) (by kernel_rfl) (by kernel_rfl) (fun _ _ _ h => h) (by assumption) (Or.inr ⟨by kernel_rfl, rfl⟩) ?_
  (try simp only [Act.put, List.getElem_toArray, List.getElem_cons_zero, List.getElem_cons_succ, List.setIfInBounds_toArray, List.set_cons_zero, List.set_cons_succ])
  refine held_take (fun _ => trivial) (by kernel_rfl) (i := 14) (oi := _) (v := undef) rfl (by kernel_rfl) (by kernel_rfl) (by kernel_rfl) (fun _ _ _ h => h) (by assumption) (Or.inr ⟨by kernel_rfl, rfl⟩) ?_
  (try simp only [Act.put, List.getElem_toArray, List.getElem_cons_zero, List.getElem_cons_succ, List.setIfInBounds_toArray, List.set_cons_zero, List.set_cons_succ])
  refine held_take (fun _ => trivial) (by kernel_rfl) (i := 15) (oi := _) (v := undef) rfl (by kernel_rfl) (by kernel_rfl) (by kernel_rfl) (fun _ _ _ h => h) (by assumption) (Or.inr ⟨by kernel_rfl, rfl⟩) ?_
  (try simp only [Act.put, List.getElem_toArray, List.getElem_cons_zero, List.getElem_cons_succ, List.setIfInBounds_toArray, List.set_cons_zero, List.set_cons_succ])
  refine held_take (fun _ => trivial) (by kernel_rfl) (i := 16) (oi := _) (v := undef) rfl (by kernel_rfl) (by kernel_rfl) (by kernel_rfl) (fun _ _ _ h => h) (by assumption) (Or.inr ⟨by kernel_rfl, rfl⟩) ?_
  (try simp only [Act.put, List.getElem_toArray, List.getElem_cons_zero, List.getElem_cons_succ, List.setIfInBounds_toArray, List.set_cons_zero, List.set_cons_succ])
  refine held_take (fun _ => trivial) (by kernel_rfl) (i := 17) (oi := _) (v := undef) rfl (by kernel_rfl) (by kernel_rfl) (by kernel_rfl) (fun _ _ _ h => h) (by assumption) (Or.inr ⟨by kernel_rfl, rfl⟩) ?_
  (try simp only [Act.put, List.getElem_toArray, List.getElem_cons_zero, List.getElem_cons_succ, List.setIfInBounds_toArray, List.set_cons_zero, List.set_cons_succ])
  refine held_take (fun _ => trivial) (by kernel_rfl) (i := 18) (oi := _) (v := undef) rfl (by kernel_rfl) (by kernel_rfl) (by kernel_rfl) (fun _ _ _ h => h) (by assumption) (Or.inr ⟨by kernel_rfl, rfl⟩) ?_
  (try simp only [Act.put, List.getElem_toArray, List.getElem_cons_zero, List.getElem_cons_succ, List.setIfInBounds_toArray, List.set_cons_zero, List.set_cons_succ])
  refine held_take (fun _ => trivial) (by kernel_rfl) (i := 19) (oi := _) (v := undef) rfl (by kernel_rfl) (by kernel_rfl) (by kernel_rfl) (fun _ _ _ h => h) (by assumption) (Or.inr ⟨by kernel_rfl, rfl⟩) ?_
  (try simp only [Act.put, List.getElem_toArray, List.getElem_cons_zero, List.getElem_cons_succ, List.setIfInBounds_toArray, List.set_cons_zero, List.set_cons_succ])
  refine held_take (fun _ => trivial) (by kernel_rfl) (i := 20) (oi := _) (v := undef) rfl (by kernel_rfl) (by kernel_rfl) (by kernel_rfl) (fun _ _ _ h => h) (by assumption) (Or.inr ⟨by kernel_rfl, rfl⟩) ?_
  (try simp only [Act.put, List.getElem_toArray, List.getElem_cons_zero, List.getElem_cons_succ, List.setIfInBounds_toArray, List.set_cons_zero, List.set_cons_succ])
  refine held_take (fun _ => trivial) (by kernel_rfl) (i := 21) (oi := _) (v := undef) rfl (by kernel_rfl) (by kernel_rfl) (by kernel_rfl) (fun _ _ _ h => h) (by assumption) (Or.inr ⟨by kernel_rfl, rfl⟩) ?_
  (try simp only [Act.put, List.getElem_toArray, List.getElem_cons_zero, List.getElem_cons_succ, List.setIfInBounds_toArray, List.set_cons_zero, List.set_cons_succ])
  refine held_take (fun _ => trivial) (by kernel_rfl) (i := 22) (oi := _) (v := ?_) rfl (by kernel_rfl) (by kernel_rfl) (by kernel_rfl) (fun _ _ _ h => h) (by assumption) (Or.inl ⟨by kernel_rfl, ?_⟩) ?_
  rotate_left
  · intro wz hSw; (first | (go_simp; done) | (go_simp; with_reducible rfl))
  (try simp only [Act.put, List.getElem_toArray, List.getElem_cons_zero, List.getElem_cons_succ, List.setIfInBounds_toArray, List.set_cons_zero, List.set_cons_succ])
  refine held_take (fun _ => trivial) (by kernel_rfl) (i := 23) (oi := _) (v := ?_) rfl (by kernel_rfl) (by kernel_rfl) (by kernel_rfl) (fun _ _ _ h => h) (by assumption) (Or.inl ⟨by kernel_rfl, ?_⟩) ?_
  rotate_left
  · intro wz hSw; (first | (go_simp; done) | (go_simp; with_reducible rfl))
  (try simp only [Act.put, List.getElem_toArray, List.getElem_cons_zero, List.getElem_cons_succ, List.setIfInBounds_toArray, List.set_cons_zero, List.set_cons_succ])
  refine held_done (by kernel_rfl) ?_ _
  refine hK14 _ _ ?_
  have HE := Lib.hid (bnext HB.out hHeld)
  clear hHeld
  go_wp2_with fail
  go_ret
  exact ⟨rfl, HE.out⟩
set_option maxRecDepth 100000 in
set_option maxHeartbeats 4000000 in
theorem divides_fit_no (a b c X P S PR M N t nt xh qh n : Int) (xl ql : Nat) (w : World)
    (cWD : Hid (Ans 25 #[.agg #[.int .i64 xh, .int .u64 xl], .int .i64 c] (.tuple #[.agg #[.int .i64 qh, .int .u64 ql], .int .i64 0, .int .i64 20])))
    (cF : Hid (Ans 9 #[.agg #[.int .i64 xh, .int .u64 xl]] (.agg (bv X))))
    (cOc : Hid (Ans 12 #[.int .i64 c] (.agg (bv c))))
    (cD : Hid (Ans 26 #[.agg (bv X), .agg (bv c)] (.tuple #[.agg (bv P), .agg (bv S), .int .i64 0])))
    (cC : Hid (Ans 14 #[.agg (bv P)] (.tuple #[.agg #[.int .i64 qh, .int .u64 ql], .int .i64 20])))
    (cWM : Hid (Ans 27 #[.int .i64 a, .int .i64 b, .int .i64 c] (.tuple #[.int .i64 n, .int .i64 0])))
    (cOa : Hid (Ans 12 #[.int .i64 a] (.agg (bv a))))
    (cOb : Hid (Ans 12 #[.int .i64 b] (.agg (bv b))))
    (cMu : Hid (Ans 11 #[.agg (bv a), .agg (bv b)] (.agg (bv PR))))
    (cD2 : Hid (Ans 26 #[.agg (bv PR), .agg (bv c)] (.tuple #[.agg (bv M), .agg (bv N), .int .i64 0])))
    (cTw : Hid (Ans 20 #[.int .i64 63] (.agg (bv t))))
    (cNt : Hid (Ans 17 #[.agg (bv t)] (.agg (bv nt))))
    (cL3 : Hid (Ans 18 #[.agg (bv M), .agg (bv nt)] (.bool false)))
    (cL4 : Hid (Ans 18 #[.agg (bv M), .agg (bv t)] (.bool true)))
    (cOn : Hid (Ans 12 #[.int .i64 n] (.agg (bv M))))
    : Calls Try.prog 4 #[.agg #[.int .i64 xh, .int .u64 xl], .int .i64 a, .int .i64 b, .int .i64 c] w fun e w' => e = .returned (.bool true) ∧ Below w.heap.size w w' := by
  have Rx : Hid (WideAt w.heap.size xh xl (w.alloc (.cells #[.int .i64 xh, .int .u64 xl] 24))) := Lib.hid (heap_alloc_new _ _)
  have HB : Hid (Below w.heap.size w (w.alloc (.cells #[.int .i64 xh, .int .u64 xl] 24))) := Lib.hid (by go_grown)
  go_enter Try.func4, Try.ntmps4
  go_wp2_with (refine wpList_load_row rfl 24 (.tmp 4) rfl (w.heap.size) rfl _ _ _ _ Rx.out Try.underlying24 rfl (by kernel_rfl) ?_)
  refine (cWD.out _).mono ?_
  rintro e w1 ⟨rfl, hbn⟩
  have Bn := bnext HB.out hbn
  have HBn : Hid (Below w.heap.size w (w1.alloc (.cells #[.int .i64 qh, .int .u64 ql] 24))) := Lib.hid (Bn.alloc Bn.size _)
  clear HB
  have HB := HBn
  clear HBn
  replace Rx : Hid (WideAt (w.heap.size) xh xl (w1.alloc (.cells #[.int .i64 qh, .int .u64 ql] 24))) := Lib.hid (step_row (WideAt.below hbn Rx.out))
  have Rq : Hid (WideAt (w1.heap.size) qh ql (w1.alloc (.cells #[.int .i64 qh, .int .u64 ql] 24))) := Lib.hid (heap_alloc_new _ _)
  clear hbn Bn
  go_wp2_with (refine wpList_load_row rfl 24 (.tmp 4) rfl (w.heap.size) rfl _ _ _ _ Rx.out Try.underlying24 rfl (by kernel_rfl) ?_)
  refine (cF.out _).mono ?_
  rintro e w2 ⟨rfl, hbn⟩
  have Bn := bnext HB.out hbn
  have HBn : Hid (Below w.heap.size w w2) := Lib.hid (Bn)
  clear HB
  have HB := HBn
  clear HBn
  replace Rx : Hid (WideAt (w.heap.size) xh xl w2) := Lib.hid (WideAt.below hbn Rx.out)
  replace Rq : Hid (WideAt (w1.heap.size) qh ql w2) := Lib.hid (WideAt.below hbn Rq.out)
  clear hbn Bn
  go_wp2_with fail
  refine (cOc.out _).mono ?_
  rintro e w3 ⟨rfl, hbn⟩
  have Bn := bnext HB.out hbn
  have HBn : Hid (Below w.heap.size w w3) := Lib.hid (Bn)
  clear HB
  have HB := HBn
  clear HBn
  replace Rx : Hid (WideAt (w.heap.size) xh xl w3) := Lib.hid (WideAt.below hbn Rx.out)
  replace Rq : Hid (WideAt (w1.heap.size) qh ql w3) := Lib.hid (WideAt.below hbn Rq.out)
  clear hbn Bn
  go_wp2_with fail
  refine (cD.out _).mono ?_
  rintro e w4 ⟨rfl, hbn⟩
  have Bn := bnext HB.out hbn
  have Z1 : Hid (BigAt (w4.heap.size) 0 ((w4.alloc (.cells #[.bool false, .int .u64 0, .int .u64 0, .int .u64 0, .int .u64 0, .int .u64 0, .int .u64 0, .int .u64 0, .int .u64 0, .int .u64 0, .int .u64 0, .int .u64 0, .int .u64 0, .int .u64 0, .int .u64 0, .int .u64 0, .int .u64 0, .int .u64 0, .int .u64 0, .int .u64 0, .int .u64 0] 27)).alloc (.cells #[.bool false, .int .u64 0, .int .u64 0, .int .u64 0, .int .u64 0, .int .u64 0, .int .u64 0, .int .u64 0, .int .u64 0, .int .u64 0, .int .u64 0, .int .u64 0, .int .u64 0, .int .u64 0, .int .u64 0, .int .u64 0, .int .u64 0, .int .u64 0, .int .u64 0, .int .u64 0, .int .u64 0] 27))) := Lib.hid (step_row (heap_alloc_new _ _))
  have Z2 : Hid (BigAt (w4.heap.size + 1) 0 (((w4.alloc (.cells #[.bool false, .int .u64 0, .int .u64 0, .int .u64 0, .int .u64 0, .int .u64 0, .int .u64 0, .int .u64 0, .int .u64 0, .int .u64 0, .int .u64 0, .int .u64 0, .int .u64 0, .int .u64 0, .int .u64 0, .int .u64 0, .int .u64 0, .int .u64 0, .int .u64 0, .int .u64 0, .int .u64 0] 27)).alloc (.cells #[.bool false, .int .u64 0, .int .u64 0, .int .u64 0, .int .u64 0, .int .u64 0, .int .u64 0, .int .u64 0, .int .u64 0, .int .u64 0, .int .u64 0, .int .u64 0, .int .u64 0, .int .u64 0, .int .u64 0, .int .u64 0, .int .u64 0, .int .u64 0, .int .u64 0, .int .u64 0, .int .u64 0] 27)).setRow (w4.heap.size) (bv P))) := Lib.hid (BigAt.other (k := w4.heap.size) (show BigAt (w4.heap.size + 1) 0 ((w4.alloc (.cells #[.bool false, .int .u64 0, .int .u64 0, .int .u64 0, .int .u64 0, .int .u64 0, .int .u64 0, .int .u64 0, .int .u64 0, .int .u64 0, .int .u64 0, .int .u64 0, .int .u64 0, .int .u64 0, .int .u64 0, .int .u64 0, .int .u64 0, .int .u64 0, .int .u64 0, .int .u64 0, .int .u64 0] 27)).alloc (.cells #[.bool false, .int .u64 0, .int .u64 0, .int .u64 0, .int .u64 0, .int .u64 0, .int .u64 0, .int .u64 0, .int .u64 0, .int .u64 0, .int .u64 0, .int .u64 0, .int .u64 0, .int .u64 0, .int .u64 0, .int .u64 0, .int .u64 0, .int .u64 0, .int .u64 0, .int .u64 0, .int .u64 0] 27)) from heap_alloc2_new _ _ _) (by omega) _)
  have Bz : Below w4.heap.size w4 ((((w4.alloc (.cells #[.bool false, .int .u64 0, .int .u64 0, .int .u64 0, .int .u64 0, .int .u64 0, .int .u64 0, .int .u64 0, .int .u64 0, .int .u64 0, .int .u64 0, .int .u64 0, .int .u64 0, .int .u64 0, .int .u64 0, .int .u64 0, .int .u64 0, .int .u64 0, .int .u64 0, .int .u64 0, .int .u64 0] 27)).alloc (.cells #[.bool false, .int .u64 0, .int .u64 0, .int .u64 0, .int .u64 0, .int .u64 0, .int .u64 0, .int .u64 0, .int .u64 0, .int .u64 0, .int .u64 0, .int .u64 0, .int .u64 0, .int .u64 0, .int .u64 0, .int .u64 0, .int .u64 0, .int .u64 0, .int .u64 0, .int .u64 0, .int .u64 0] 27)).setRow (w4.heap.size) (bv P)).setRow (w4.heap.size + 1) (bv S)) := Below.row (Below.row (by go_grown) (Nat.le_refl _) _) (by omega) _
  have HBn : Hid (Below w.heap.size w ((((w4.alloc (.cells #[.bool false, .int .u64 0, .int .u64 0, .int .u64 0, .int .u64 0, .int .u64 0, .int .u64 0, .int .u64 0, .int .u64 0, .int .u64 0, .int .u64 0, .int .u64 0, .int .u64 0, .int .u64 0, .int .u64 0, .int .u64 0, .int .u64 0, .int .u64 0, .int .u64 0, .int .u64 0, .int .u64 0] 27)).alloc (.cells #[.bool false, .int .u64 0, .int .u64 0, .int .u64 0, .int .u64 0, .int .u64 0, .int .u64 0, .int .u64 0, .int .u64 0, .int .u64 0, .int .u64 0, .int .u64 0, .int .u64 0, .int .u64 0, .int .u64 0, .int .u64 0, .int .u64 0, .int .u64 0, .int .u64 0, .int .u64 0, .int .u64 0] 27)).setRow (w4.heap.size) (bv P)).setRow (w4.heap.size + 1) (bv S))) := Lib.hid (bnext Bn Bz)
  clear HB
  have HB := HBn
  clear HBn
  replace Rx : Hid (WideAt (w.heap.size) xh xl ((((w4.alloc (.cells #[.bool false, .int .u64 0, .int .u64 0, .int .u64 0, .int .u64 0, .int .u64 0, .int .u64 0, .int .u64 0, .int .u64 0, .int .u64 0, .int .u64 0, .int .u64 0, .int .u64 0, .int .u64 0, .int .u64 0, .int .u64 0, .int .u64 0, .int .u64 0, .int .u64 0, .int .u64 0, .int .u64 0] 27)).alloc (.cells #[.bool false, .int .u64 0, .int .u64 0, .int .u64 0, .int .u64 0, .int .u64 0, .int .u64 0, .int .u64 0, .int .u64 0, .int .u64 0, .int .u64 0, .int .u64 0, .int .u64 0, .int .u64 0, .int .u64 0, .int .u64 0, .int .u64 0, .int .u64 0, .int .u64 0, .int .u64 0, .int .u64 0] 27)).setRow (w4.heap.size) (bv P)).setRow (w4.heap.size + 1) (bv S))) := Lib.hid (WideAt.below Bz (WideAt.below hbn Rx.out))
  replace Rq : Hid (WideAt (w1.heap.size) qh ql ((((w4.alloc (.cells #[.bool false, .int .u64 0, .int .u64 0, .int .u64 0, .int .u64 0, .int .u64 0, .int .u64 0, .int .u64 0, .int .u64 0, .int .u64 0, .int .u64 0, .int .u64 0, .int .u64 0, .int .u64 0, .int .u64 0, .int .u64 0, .int .u64 0, .int .u64 0, .int .u64 0, .int .u64 0, .int .u64 0] 27)).alloc (.cells #[.bool false, .int .u64 0, .int .u64 0, .int .u64 0, .int .u64 0, .int .u64 0, .int .u64 0, .int .u64 0, .int .u64 0, .int .u64 0, .int .u64 0, .int .u64 0, .int .u64 0, .int .u64 0, .int .u64 0, .int .u64 0, .int .u64 0, .int .u64 0, .int .u64 0, .int .u64 0, .int .u64 0] 27)).setRow (w4.heap.size) (bv P)).setRow (w4.heap.size + 1) (bv S))) := Lib.hid (WideAt.below Bz (WideAt.below hbn Rq.out))
  have Rp : Hid (BigAt (w4.heap.size) P ((((w4.alloc (.cells #[.bool false, .int .u64 0, .int .u64 0, .int .u64 0, .int .u64 0, .int .u64 0, .int .u64 0, .int .u64 0, .int .u64 0, .int .u64 0, .int .u64 0, .int .u64 0, .int .u64 0, .int .u64 0, .int .u64 0, .int .u64 0, .int .u64 0, .int .u64 0, .int .u64 0, .int .u64 0, .int .u64 0] 27)).alloc (.cells #[.bool false, .int .u64 0, .int .u64 0, .int .u64 0, .int .u64 0, .int .u64 0, .int .u64 0, .int .u64 0, .int .u64 0, .int .u64 0, .int .u64 0, .int .u64 0, .int .u64 0, .int .u64 0, .int .u64 0, .int .u64 0, .int .u64 0, .int .u64 0, .int .u64 0, .int .u64 0, .int .u64 0] 27)).setRow (w4.heap.size) (bv P)).setRow (w4.heap.size + 1) (bv S))) := Lib.hid (BigAt.other (k := w4.heap.size + 1) (BigAt.row Z1.out P) (by omega) _)
  have Rs : Hid (BigAt (w4.heap.size + 1) S ((((w4.alloc (.cells #[.bool false, .int .u64 0, .int .u64 0, .int .u64 0, .int .u64 0, .int .u64 0, .int .u64 0, .int .u64 0, .int .u64 0, .int .u64 0, .int .u64 0, .int .u64 0, .int .u64 0, .int .u64 0, .int .u64 0, .int .u64 0, .int .u64 0, .int .u64 0, .int .u64 0, .int .u64 0, .int .u64 0] 27)).alloc (.cells #[.bool false, .int .u64 0, .int .u64 0, .int .u64 0, .int .u64 0, .int .u64 0, .int .u64 0, .int .u64 0, .int .u64 0, .int .u64 0, .int .u64 0, .int .u64 0, .int .u64 0, .int .u64 0, .int .u64 0, .int .u64 0, .int .u64 0, .int .u64 0, .int .u64 0, .int .u64 0, .int .u64 0] 27)).setRow (w4.heap.size) (bv P)).setRow (w4.heap.size + 1) (bv S))) := Lib.hid (BigAt.row Z2.out S)
  clear hbn Bn Bz
  go_wp2_with (first | (refine wpList_store_big rfl 27 (.tmp 12) (.tmp 36) rfl (w4.heap.size) _ _ (bv P) rfl rfl Z1.out (bv_info _) (bv_same _ _) (bv_one _) ?_) | (refine wpList_store_big rfl 27 (.tmp 13) (.tmp 37) rfl (w4.heap.size + 1) _ _ (bv S) rfl rfl Z2.out (bv_info _) (bv_same _ _) (bv_one _) ?_) | (refine wpList_load_row rfl 27 (.tmp 12) rfl (w4.heap.size) rfl _ _ _ _ Rp.out Try.underlying27 rfl (bv_info _) ?_))
  refine (cC.out _).mono ?_
  rintro e w5 ⟨rfl, hbn⟩
  have Bn := bnext HB.out hbn
  have HBn : Hid (Below w.heap.size w (w5.alloc (.cells #[.int .i64 qh, .int .u64 ql] 24))) := Lib.hid (Bn.alloc Bn.size _)
  clear HB
  have HB := HBn
  clear HBn
  replace Rx : Hid (WideAt (w.heap.size) xh xl (w5.alloc (.cells #[.int .i64 qh, .int .u64 ql] 24))) := Lib.hid (step_row (WideAt.below hbn Rx.out))
  replace Rq : Hid (WideAt (w1.heap.size) qh ql (w5.alloc (.cells #[.int .i64 qh, .int .u64 ql] 24))) := Lib.hid (step_row (WideAt.below hbn Rq.out))
  replace Rp : Hid (BigAt (w4.heap.size) P (w5.alloc (.cells #[.int .i64 qh, .int .u64 ql] 24))) := Lib.hid (step_row (BigAt.below hbn Rp.out))
  replace Rs : Hid (BigAt (w4.heap.size + 1) S (w5.alloc (.cells #[.int .i64 qh, .int .u64 ql] 24))) := Lib.hid (step_row (BigAt.below hbn Rs.out))
  have Rv : Hid (WideAt (w5.heap.size) qh ql (w5.alloc (.cells #[.int .i64 qh, .int .u64 ql] 24))) := Lib.hid (heap_alloc_new _ _)
  clear hbn Bn
  go_wp2_with fail
  refine (cWM.out _).mono ?_
  rintro e w6 ⟨rfl, hbn⟩
  have Bn := bnext HB.out hbn
  have HBn : Hid (Below w.heap.size w w6) := Lib.hid (Bn)
  clear HB
  have HB := HBn
  clear HBn
  replace Rx : Hid (WideAt (w.heap.size) xh xl w6) := Lib.hid (WideAt.below hbn Rx.out)
  replace Rq : Hid (WideAt (w1.heap.size) qh ql w6) := Lib.hid (WideAt.below hbn Rq.out)
  replace Rp : Hid (BigAt (w4.heap.size) P w6) := Lib.hid (BigAt.below hbn Rp.out)
  replace Rs : Hid (BigAt (w4.heap.size + 1) S w6) := Lib.hid (BigAt.below hbn Rs.out)
  replace Rv : Hid (WideAt (w5.heap.size) qh ql w6) := Lib.hid (WideAt.below hbn Rv.out)
  clear hbn Bn
  go_wp2_with (first | (refine wpList_load_big (by kernel_rfl) 24 (.tmp 9) rfl (w1.heap.size) rfl _ _ _ _ Rq.out Try.underlying24 rfl (by kernel_rfl) ?_) | (refine wpList_load_big (by kernel_rfl) 24 (.tmp 15) rfl (w5.heap.size) rfl _ _ _ _ Rv.out Try.underlying24 rfl (by kernel_rfl) ?_))
  refine (cOa.out _).mono ?_
  rintro e w7a ⟨rfl, hbn⟩
  have Bn := bnext HB.out hbn
  have HBn : Hid (Below w.heap.size w w7a) := Lib.hid (Bn)
  clear HB
  have HB := HBn
  clear HBn
  replace Rx : Hid (WideAt (w.heap.size) xh xl w7a) := Lib.hid (WideAt.below hbn Rx.out)
  replace Rq : Hid (WideAt (w1.heap.size) qh ql w7a) := Lib.hid (WideAt.below hbn Rq.out)
  replace Rp : Hid (BigAt (w4.heap.size) P w7a) := Lib.hid (BigAt.below hbn Rp.out)
  replace Rs : Hid (BigAt (w4.heap.size + 1) S w7a) := Lib.hid (BigAt.below hbn Rs.out)
  replace Rv : Hid (WideAt (w5.heap.size) qh ql w7a) := Lib.hid (WideAt.below hbn Rv.out)
  clear hbn Bn
  go_wp2_with fail
  refine (cOb.out _).mono ?_
  rintro e w7b ⟨rfl, hbn⟩
  have Bn := bnext HB.out hbn
  have HBn : Hid (Below w.heap.size w w7b) := Lib.hid (Bn)
  clear HB
  have HB := HBn
  clear HBn
  replace Rx : Hid (WideAt (w.heap.size) xh xl w7b) := Lib.hid (WideAt.below hbn Rx.out)
  replace Rq : Hid (WideAt (w1.heap.size) qh ql w7b) := Lib.hid (WideAt.below hbn Rq.out)
  replace Rp : Hid (BigAt (w4.heap.size) P w7b) := Lib.hid (BigAt.below hbn Rp.out)
  replace Rs : Hid (BigAt (w4.heap.size + 1) S w7b) := Lib.hid (BigAt.below hbn Rs.out)
  replace Rv : Hid (WideAt (w5.heap.size) qh ql w7b) := Lib.hid (WideAt.below hbn Rv.out)
  clear hbn Bn
  go_wp2_with fail
  refine (cMu.out _).mono ?_
  rintro e w7c ⟨rfl, hbn⟩
  have Bn := bnext HB.out hbn
  have HBn : Hid (Below w.heap.size w w7c) := Lib.hid (Bn)
  clear HB
  have HB := HBn
  clear HBn
  replace Rx : Hid (WideAt (w.heap.size) xh xl w7c) := Lib.hid (WideAt.below hbn Rx.out)
  replace Rq : Hid (WideAt (w1.heap.size) qh ql w7c) := Lib.hid (WideAt.below hbn Rq.out)
  replace Rp : Hid (BigAt (w4.heap.size) P w7c) := Lib.hid (BigAt.below hbn Rp.out)
  replace Rs : Hid (BigAt (w4.heap.size + 1) S w7c) := Lib.hid (BigAt.below hbn Rs.out)
  replace Rv : Hid (WideAt (w5.heap.size) qh ql w7c) := Lib.hid (WideAt.below hbn Rv.out)
  clear hbn Bn
  go_wp2_with fail
  refine (cOc.out _).mono ?_
  rintro e w7d ⟨rfl, hbn⟩
  have Bn := bnext HB.out hbn
  have HBn : Hid (Below w.heap.size w w7d) := Lib.hid (Bn)
  clear HB
  have HB := HBn
  clear HBn
  replace Rx : Hid (WideAt (w.heap.size) xh xl w7d) := Lib.hid (WideAt.below hbn Rx.out)
  replace Rq : Hid (WideAt (w1.heap.size) qh ql w7d) := Lib.hid (WideAt.below hbn Rq.out)
  replace Rp : Hid (BigAt (w4.heap.size) P w7d) := Lib.hid (BigAt.below hbn Rp.out)
  replace Rs : Hid (BigAt (w4.heap.size + 1) S w7d) := Lib.hid (BigAt.below hbn Rs.out)
  replace Rv : Hid (WideAt (w5.heap.size) qh ql w7d) := Lib.hid (WideAt.below hbn Rv.out)
  clear hbn Bn
  go_wp2_with fail
  refine (cD2.out _).mono ?_
  rintro e w7e ⟨rfl, hbn⟩
  have Bn := bnext HB.out hbn
  have Z1 : Hid (BigAt (w7e.heap.size) 0 ((w7e.alloc (.cells #[.bool false, .int .u64 0, .int .u64 0, .int .u64 0, .int .u64 0, .int .u64 0, .int .u64 0, .int .u64 0, .int .u64 0, .int .u64 0, .int .u64 0, .int .u64 0, .int .u64 0, .int .u64 0, .int .u64 0, .int .u64 0, .int .u64 0, .int .u64 0, .int .u64 0, .int .u64 0, .int .u64 0] 27)).alloc (.cells #[.bool false, .int .u64 0, .int .u64 0, .int .u64 0, .int .u64 0, .int .u64 0, .int .u64 0, .int .u64 0, .int .u64 0, .int .u64 0, .int .u64 0, .int .u64 0, .int .u64 0, .int .u64 0, .int .u64 0, .int .u64 0, .int .u64 0, .int .u64 0, .int .u64 0, .int .u64 0, .int .u64 0] 27))) := Lib.hid (step_row (heap_alloc_new _ _))
  have Z2 : Hid (BigAt (w7e.heap.size + 1) 0 (((w7e.alloc (.cells #[.bool false, .int .u64 0, .int .u64 0, .int .u64 0, .int .u64 0, .int .u64 0, .int .u64 0, .int .u64 0, .int .u64 0, .int .u64 0, .int .u64 0, .int .u64 0, .int .u64 0, .int .u64 0, .int .u64 0, .int .u64 0, .int .u64 0, .int .u64 0, .int .u64 0, .int .u64 0, .int .u64 0] 27)).alloc (.cells #[.bool false, .int .u64 0, .int .u64 0, .int .u64 0, .int .u64 0, .int .u64 0, .int .u64 0, .int .u64 0, .int .u64 0, .int .u64 0, .int .u64 0, .int .u64 0, .int .u64 0, .int .u64 0, .int .u64 0, .int .u64 0, .int .u64 0, .int .u64 0, .int .u64 0, .int .u64 0, .int .u64 0] 27)).setRow (w7e.heap.size) (bv M))) := Lib.hid (BigAt.other (k := w7e.heap.size) (show BigAt (w7e.heap.size + 1) 0 ((w7e.alloc (.cells #[.bool false, .int .u64 0, .int .u64 0, .int .u64 0, .int .u64 0, .int .u64 0, .int .u64 0, .int .u64 0, .int .u64 0, .int .u64 0, .int .u64 0, .int .u64 0, .int .u64 0, .int .u64 0, .int .u64 0, .int .u64 0, .int .u64 0, .int .u64 0, .int .u64 0, .int .u64 0, .int .u64 0] 27)).alloc (.cells #[.bool false, .int .u64 0, .int .u64 0, .int .u64 0, .int .u64 0, .int .u64 0, .int .u64 0, .int .u64 0, .int .u64 0, .int .u64 0, .int .u64 0, .int .u64 0, .int .u64 0, .int .u64 0, .int .u64 0, .int .u64 0, .int .u64 0, .int .u64 0, .int .u64 0, .int .u64 0, .int .u64 0] 27)) from heap_alloc2_new _ _ _) (by omega) _)
  have Bz : Below w7e.heap.size w7e ((((w7e.alloc (.cells #[.bool false, .int .u64 0, .int .u64 0, .int .u64 0, .int .u64 0, .int .u64 0, .int .u64 0, .int .u64 0, .int .u64 0, .int .u64 0, .int .u64 0, .int .u64 0, .int .u64 0, .int .u64 0, .int .u64 0, .int .u64 0, .int .u64 0, .int .u64 0, .int .u64 0, .int .u64 0, .int .u64 0] 27)).alloc (.cells #[.bool false, .int .u64 0, .int .u64 0, .int .u64 0, .int .u64 0, .int .u64 0, .int .u64 0, .int .u64 0, .int .u64 0, .int .u64 0, .int .u64 0, .int .u64 0, .int .u64 0, .int .u64 0, .int .u64 0, .int .u64 0, .int .u64 0, .int .u64 0, .int .u64 0, .int .u64 0, .int .u64 0] 27)).setRow (w7e.heap.size) (bv M)).setRow (w7e.heap.size + 1) (bv N)) := Below.row (Below.row (by go_grown) (Nat.le_refl _) _) (by omega) _
  have HBn : Hid (Below w.heap.size w ((((w7e.alloc (.cells #[.bool false, .int .u64 0, .int .u64 0, .int .u64 0, .int .u64 0, .int .u64 0, .int .u64 0, .int .u64 0, .int .u64 0, .int .u64 0, .int .u64 0, .int .u64 0, .int .u64 0, .int .u64 0, .int .u64 0, .int .u64 0, .int .u64 0, .int .u64 0, .int .u64 0, .int .u64 0, .int .u64 0] 27)).alloc (.cells #[.bool false, .int .u64 0, .int .u64 0, .int .u64 0, .int .u64 0, .int .u64 0, .int .u64 0, .int .u64 0, .int .u64 0, .int .u64 0, .int .u64 0, .int .u64 0, .int .u64 0, .int .u64 0, .int .u64 0, .int .u64 0, .int .u64 0, .int .u64 0, .int .u64 0, .int .u64 0, .int .u64 0] 27)).setRow (w7e.heap.size) (bv M)).setRow (w7e.heap.size + 1) (bv N))) := Lib.hid (bnext Bn Bz)
  clear HB
  have HB := HBn
  clear HBn
  replace Rx : Hid (WideAt (w.heap.size) xh xl ((((w7e.alloc (.cells #[.bool false, .int .u64 0, .int .u64 0, .int .u64 0, .int .u64 0, .int .u64 0, .int .u64 0, .int .u64 0, .int .u64 0, .int .u64 0, .int .u64 0, .int .u64 0, .int .u64 0, .int .u64 0, .int .u64 0, .int .u64 0, .int .u64 0, .int .u64 0, .int .u64 0, .int .u64 0, .int .u64 0] 27)).alloc (.cells #[.bool false, .int .u64 0, .int .u64 0, .int .u64 0, .int .u64 0, .int .u64 0, .int .u64 0, .int .u64 0, .int .u64 0, .int .u64 0, .int .u64 0, .int .u64 0, .int .u64 0, .int .u64 0, .int .u64 0, .int .u64 0, .int .u64 0, .int .u64 0, .int .u64 0, .int .u64 0, .int .u64 0] 27)).setRow (w7e.heap.size) (bv M)).setRow (w7e.heap.size + 1) (bv N))) := Lib.hid (WideAt.below Bz (WideAt.below hbn Rx.out))
  replace Rq : Hid (WideAt (w1.heap.size) qh ql ((((w7e.alloc (.cells #[.bool false, .int .u64 0, .int .u64 0, .int .u64 0, .int .u64 0, .int .u64 0, .int .u64 0, .int .u64 0, .int .u64 0, .int .u64 0, .int .u64 0, .int .u64 0, .int .u64 0, .int .u64 0, .int .u64 0, .int .u64 0, .int .u64 0, .int .u64 0, .int .u64 0, .int .u64 0, .int .u64 0] 27)).alloc (.cells #[.bool false, .int .u64 0, .int .u64 0, .int .u64 0, .int .u64 0, .int .u64 0, .int .u64 0, .int .u64 0, .int .u64 0, .int .u64 0, .int .u64 0, .int .u64 0, .int .u64 0, .int .u64 0, .int .u64 0, .int .u64 0, .int .u64 0, .int .u64 0, .int .u64 0, .int .u64 0, .int .u64 0] 27)).setRow (w7e.heap.size) (bv M)).setRow (w7e.heap.size + 1) (bv N))) := Lib.hid (WideAt.below Bz (WideAt.below hbn Rq.out))
  replace Rp : Hid (BigAt (w4.heap.size) P ((((w7e.alloc (.cells #[.bool false, .int .u64 0, .int .u64 0, .int .u64 0, .int .u64 0, .int .u64 0, .int .u64 0, .int .u64 0, .int .u64 0, .int .u64 0, .int .u64 0, .int .u64 0, .int .u64 0, .int .u64 0, .int .u64 0, .int .u64 0, .int .u64 0, .int .u64 0, .int .u64 0, .int .u64 0, .int .u64 0] 27)).alloc (.cells #[.bool false, .int .u64 0, .int .u64 0, .int .u64 0, .int .u64 0, .int .u64 0, .int .u64 0, .int .u64 0, .int .u64 0, .int .u64 0, .int .u64 0, .int .u64 0, .int .u64 0, .int .u64 0, .int .u64 0, .int .u64 0, .int .u64 0, .int .u64 0, .int .u64 0, .int .u64 0, .int .u64 0] 27)).setRow (w7e.heap.size) (bv M)).setRow (w7e.heap.size + 1) (bv N))) := Lib.hid (BigAt.below Bz (BigAt.below hbn Rp.out))
  replace Rs : Hid (BigAt (w4.heap.size + 1) S ((((w7e.alloc (.cells #[.bool false, .int .u64 0, .int .u64 0, .int .u64 0, .int .u64 0, .int .u64 0, .int .u64 0, .int .u64 0, .int .u64 0, .int .u64 0, .int .u64 0, .int .u64 0, .int .u64 0, .int .u64 0, .int .u64 0, .int .u64 0, .int .u64 0, .int .u64 0, .int .u64 0, .int .u64 0, .int .u64 0] 27)).alloc (.cells #[.bool false, .int .u64 0, .int .u64 0, .int .u64 0, .int .u64 0, .int .u64 0, .int .u64 0, .int .u64 0, .int .u64 0, .int .u64 0, .int .u64 0, .int .u64 0, .int .u64 0, .int .u64 0, .int .u64 0, .int .u64 0, .int .u64 0, .int .u64 0, .int .u64 0, .int .u64 0, .int .u64 0] 27)).setRow (w7e.heap.size) (bv M)).setRow (w7e.heap.size + 1) (bv N))) := Lib.hid (BigAt.below Bz (BigAt.below hbn Rs.out))
  replace Rv : Hid (WideAt (w5.heap.size) qh ql ((((w7e.alloc (.cells #[.bool false, .int .u64 0, .int .u64 0, .int .u64 0, .int .u64 0, .int .u64 0, .int .u64 0, .int .u64 0, .int .u64 0, .int .u64 0, .int .u64 0, .int .u64 0, .int .u64 0, .int .u64 0, .int .u64 0, .int .u64 0, .int .u64 0, .int .u64 0, .int .u64 0, .int .u64 0, .int .u64 0] 27)).alloc (.cells #[.bool false, .int .u64 0, .int .u64 0, .int .u64 0, .int .u64 0, .int .u64 0, .int .u64 0, .int .u64 0, .int .u64 0, .int .u64 0, .int .u64 0, .int .u64 0, .int .u64 0, .int .u64 0, .int .u64 0, .int .u64 0, .int .u64 0, .int .u64 0, .int .u64 0, .int .u64 0, .int .u64 0] 27)).setRow (w7e.heap.size) (bv M)).setRow (w7e.heap.size + 1) (bv N))) := Lib.hid (WideAt.below Bz (WideAt.below hbn Rv.out))
  have Rm : Hid (BigAt (w7e.heap.size) M ((((w7e.alloc (.cells #[.bool false, .int .u64 0, .int .u64 0, .int .u64 0, .int .u64 0, .int .u64 0, .int .u64 0, .int .u64 0, .int .u64 0, .int .u64 0, .int .u64 0, .int .u64 0, .int .u64 0, .int .u64 0, .int .u64 0, .int .u64 0, .int .u64 0, .int .u64 0, .int .u64 0, .int .u64 0, .int .u64 0] 27)).alloc (.cells #[.bool false, .int .u64 0, .int .u64 0, .int .u64 0, .int .u64 0, .int .u64 0, .int .u64 0, .int .u64 0, .int .u64 0, .int .u64 0, .int .u64 0, .int .u64 0, .int .u64 0, .int .u64 0, .int .u64 0, .int .u64 0, .int .u64 0, .int .u64 0, .int .u64 0, .int .u64 0, .int .u64 0] 27)).setRow (w7e.heap.size) (bv M)).setRow (w7e.heap.size + 1) (bv N))) := Lib.hid (BigAt.other (k := w7e.heap.size + 1) (BigAt.row Z1.out M) (by omega) _)
  have Rn : Hid (BigAt (w7e.heap.size + 1) N ((((w7e.alloc (.cells #[.bool false, .int .u64 0, .int .u64 0, .int .u64 0, .int .u64 0, .int .u64 0, .int .u64 0, .int .u64 0, .int .u64 0, .int .u64 0, .int .u64 0, .int .u64 0, .int .u64 0, .int .u64 0, .int .u64 0, .int .u64 0, .int .u64 0, .int .u64 0, .int .u64 0, .int .u64 0, .int .u64 0] 27)).alloc (.cells #[.bool false, .int .u64 0, .int .u64 0, .int .u64 0, .int .u64 0, .int .u64 0, .int .u64 0, .int .u64 0, .int .u64 0, .int .u64 0, .int .u64 0, .int .u64 0, .int .u64 0, .int .u64 0, .int .u64 0, .int .u64 0, .int .u64 0, .int .u64 0, .int .u64 0, .int .u64 0, .int .u64 0] 27)).setRow (w7e.heap.size) (bv M)).setRow (w7e.heap.size + 1) (bv N))) := Lib.hid (BigAt.row Z2.out N)
  clear hbn Bn Bz
  go_wp2_with (first | (refine wpList_store_big rfl 27 (.tmp 19) (.tmp 101) rfl (w7e.heap.size) _ _ (bv M) rfl rfl Z1.out (bv_info _) (bv_same _ _) (bv_one _) ?_) | (refine wpList_store_big rfl 27 (.tmp 20) (.tmp 102) rfl (w7e.heap.size + 1) _ _ (bv N) rfl rfl Z2.out (bv_info _) (bv_same _ _) (bv_one _) ?_))
  generalize ((((w7e.alloc (.cells #[.bool false, .int .u64 0, .int .u64 0, .int .u64 0, .int .u64 0, .int .u64 0, .int .u64 0, .int .u64 0, .int .u64 0, .int .u64 0, .int .u64 0, .int .u64 0, .int .u64 0, .int .u64 0, .int .u64 0, .int .u64 0, .int .u64 0, .int .u64 0, .int .u64 0, .int .u64 0, .int .u64 0] 27)).alloc (.cells #[.bool false, .int .u64 0, .int .u64 0, .int .u64 0, .int .u64 0, .int .u64 0, .int .u64 0, .int .u64 0, .int .u64 0, .int .u64 0, .int .u64 0, .int .u64 0, .int .u64 0, .int .u64 0, .int .u64 0, .int .u64 0, .int .u64 0, .int .u64 0, .int .u64 0, .int .u64 0, .int .u64 0] 27)).setRow (w7e.heap.size) (bv M)).setRow (w7e.heap.size + 1) (bv N)) = V at Rx Rq Rp Rs Rv Rm Rn HB ⊢
  clear Z1 Z2
  rename_i K13 hK13
  refine (wpIn_wide (n := 5)).1 (held_region (F := Fence.wide) (S := fun X => Below V.heap.size V X) (by kernel_rfl) (bdrew0 _ _ 1) (fun hHeld => ?_))
  refine held_take (fun _ => trivial) (by kernel_rfl) (i := 0) (oi := _) (v := .agg (bv M)) rfl (by kernel_rfl) (by kernel_rfl) (by kernel_rfl) (fun _ _ _ h => h) (by assumption) (Or.inl ⟨by kernel_rfl, ?_⟩) ?_
  · intro wz hSw; exact exec_load_row 27 (.tmp 19) (by kernel_rfl) (w7e.heap.size) (by kernel_rfl) _ _ _ _ (BigAt.below hSw Rm.out) Try.underlying27 (by kernel_rfl) (bv_info _)
  (try simp only [Act.put, List.getElem_toArray, List.getElem_cons_zero, List.getElem_cons_succ, List.setIfInBounds_toArray, List.set_cons_zero, List.set_cons_succ])
  refine held_step (fun _ => trivial) (i := 1) (o := _) (by kernel_rfl) rfl (fun K hK => ?_)
  go_simp
  refine ⟨trivial, callsIn_wide.2 ((cTw.out _).mono ?_)⟩
  rintro e x1 ⟨rfl, hb1⟩
  dsimp only
  refine hK.out _ _ (bnext hHeld hb1) (fun hHeld => ?_)
  clear hK K
  (try simp only [Act.put, List.getElem_toArray, List.getElem_cons_zero, List.getElem_cons_succ, List.setIfInBounds_toArray, List.set_cons_zero, List.set_cons_succ])
  refine held_step (fun _ => trivial) (i := 2) (o := _) (by kernel_rfl) rfl (fun K hK => ?_)
  go_simp
  refine ⟨trivial, callsIn_wide.2 ((cNt.out _).mono ?_)⟩
  rintro e x2 ⟨rfl, hb2⟩
  dsimp only
  refine hK.out _ _ (bnext hHeld hb2) (fun hHeld => ?_)
  clear hK K
  (try simp only [Act.put, List.getElem_toArray, List.getElem_cons_zero, List.getElem_cons_succ, List.setIfInBounds_toArray, List.set_cons_zero, List.set_cons_succ])
  refine held_step (fun _ => trivial) (i := 3) (o := _) (by kernel_rfl) rfl (fun K hK => ?_)
  go_simp
  refine ⟨trivial, callsIn_wide.2 ((cL3.out _).mono ?_)⟩
  rintro e x3 ⟨rfl, hb3⟩
  dsimp only
  refine hK.out _ _ (bnext hHeld hb3) (fun hHeld => ?_)
  clear hK K
  (try simp only [Act.put, List.getElem_toArray, List.getElem_cons_zero, List.getElem_cons_succ, List.setIfInBounds_toArray, List.set_cons_zero, List.set_cons_succ])
  refine held_take (fun _ => trivial) (by kernel_rfl) (i := 4) (oi := _) (v := ?_) rfl (by kernel_rfl) (by kernel_rfl) (by kernel_rfl) (fun _ _ _ h => h) (by assumption) (Or.inl ⟨by kernel_rfl, ?_⟩) ?_
  rotate_left
  · intro wz hSw; (first | (go_simp; done) | (go_simp; with_reducible rfl))
  (try simp only [Act.put, List.getElem_toArray, List.getElem_cons_zero, List.getElem_cons_succ, List.setIfInBounds_toArray, List.set_cons_zero, List.set_cons_succ])
  refine held_take (fun _ => trivial) (by kernel_rfl) (i := 5) (oi := _) (v := ?_) rfl (by kernel_rfl) (by kernel_rfl) (by kernel_rfl) (fun _ _ _ h => h) (by assumption) (Or.inl ⟨by kernel_rfl, ?_⟩) ?_
  rotate_left
  · intro wz hSw; (first | (go_simp; done) | (go_simp; with_reducible rfl))
  (try simp only [Act.put, List.getElem_toArray, List.getElem_cons_zero, List.getElem_cons_succ, List.setIfInBounds_toArray, List.set_cons_zero, List.set_cons_succ])
  refine held_take (fun _ => trivial) (by kernel_rfl) (i := 6) (oi := _) (v := .agg (bv M)) rfl (by kernel_rfl) (by kernel_rfl) (by kernel_rfl) (fun _ _ _ h => h) (by assumption) (Or.inl ⟨by kernel_rfl, ?_⟩) ?_
  · intro wz hSw; exact exec_load_row 27 (.tmp 19) (by kernel_rfl) (w7e.heap.size) (by kernel_rfl) _ _ _ _ (BigAt.below hSw Rm.out) Try.underlying27 (by kernel_rfl) (bv_info _)
  (try simp only [Act.put, List.getElem_toArray, List.getElem_cons_zero, List.getElem_cons_succ, List.setIfInBounds_toArray, List.set_cons_zero, List.set_cons_succ])
  refine held_step (fun _ => trivial) (i := 7) (o := _) (by kernel_rfl) rfl (fun K hK => ?_)
  go_simp
  refine ⟨trivial, callsIn_wide.2 ((cTw.out _).mono ?_)⟩
  rintro e x4 ⟨rfl, hb4⟩
  dsimp only
  refine hK.out _ _ (bnext hHeld hb4) (fun hHeld => ?_)
  clear hK K
  (try simp only [Act.put, List.getElem_toArray, List.getElem_cons_zero, List.getElem_cons_succ, List.setIfInBounds_toArray, List.set_cons_zero, List.set_cons_succ])
  refine held_step (fun _ => trivial) (i := 8) (o := _) (by kernel_rfl) rfl (fun K hK => ?_)
  go_simp
  refine ⟨trivial, callsIn_wide.2 ((cL4.out _).mono ?_)⟩
  rintro e x5 ⟨rfl, hb5⟩
  dsimp only
  refine hK.out _ _ (bnext hHeld hb5) (fun hHeld => ?_)
  clear hK K
  (try simp only [Act.put, List.getElem_toArray, List.getElem_cons_zero, List.getElem_cons_succ, List.setIfInBounds_toArray, List.set_cons_zero, List.set_cons_succ])
  refine held_take (fun _ => trivial) (by kernel_rfl) (i := 9) (oi := _) (v := ?_) rfl (by kernel_rfl) (by kernel_rfl) (by kernel_rfl) (fun _ _ _ h => h) (by assumption) (Or.inl ⟨by kernel_rfl, ?_⟩) ?_
  rotate_left
  · intro wz hSw; (first | (go_simp; done) | (go_simp; with_reducible rfl))
  (try simp only [Act.put, List.getElem_toArray, List.getElem_cons_zero, List.getElem_cons_succ, List.setIfInBounds_toArray, List.set_cons_zero, List.set_cons_succ])
  refine held_take (fun _ => trivial) (by kernel_rfl) (i := 10) (oi := _) (v := ?_) rfl (by kernel_rfl) (by kernel_rfl) (by kernel_rfl) (fun _ _ _ h => h) (by assumption) (Or.inl ⟨by kernel_rfl, ?_⟩) ?_
  rotate_left
  · intro wz hSw; (first | (go_simp; done) | (go_simp; with_reducible rfl))
  (try simp only [Act.put, List.getElem_toArray, List.getElem_cons_zero, List.getElem_cons_succ, List.setIfInBounds_toArray, List.set_cons_zero, List.set_cons_succ])
  refine held_done (by kernel_rfl) ?_ _
  refine hK13 _ _ ?_
  have HBn : Hid (Below w.heap.size w x5) := Lib.hid (bnext HB.out hHeld)
  clear HB
  have HB := HBn
  clear HBn
  replace Rx : Hid (WideAt (w.heap.size) xh xl x5) := Lib.hid (WideAt.below hHeld Rx.out)
  replace Rq : Hid (WideAt (w1.heap.size) qh ql x5) := Lib.hid (WideAt.below hHeld Rq.out)
  replace Rp : Hid (BigAt (w4.heap.size) P x5) := Lib.hid (BigAt.below hHeld Rp.out)
  replace Rs : Hid (BigAt (w4.heap.size + 1) S x5) := Lib.hid (BigAt.below hHeld Rs.out)
  replace Rv : Hid (WideAt (w5.heap.size) qh ql x5) := Lib.hid (WideAt.below hHeld Rv.out)
  replace Rm : Hid (BigAt (w7e.heap.size) M x5) := Lib.hid (BigAt.below hHeld Rm.out)
  replace Rn : Hid (BigAt (w7e.heap.size + 1) N x5) := Lib.hid (BigAt.below hHeld Rn.out)
  clear hK13 hHeld hb1 hb2 hb3 hb4 hb5
  go_wp2_with fail
  rename_i K14 hK14
  have heb := fun W => eq_big M W
  refine (wpIn_wide (n := 5)).1 (held_region (F := Fence.wide) (S := fun X => Below x5.heap.size x5 X) (by kernel_rfl) (bdrew0 _ _ 1) (fun hHeld => ?_))
  refine held_take (fun _ => trivial) (by kernel_rfl) (i := 0) (oi := _) (v := ?_) rfl (by kernel_rfl) (by kernel_rfl) (by kernel_rfl) (fun _ _ _ h => h) (by assumption) (Or.inl ⟨by kernel_rfl, ?_⟩) ?_
  rotate_left
  · intro wz hSw; (first | (go_simp; done) | (go_simp; with_reducible rfl))
  (try simp only [Act.put, List.getElem_toArray, List.getElem_cons_zero, List.getElem_cons_succ, List.setIfInBounds_toArray, List.set_cons_zero, List.set_cons_succ])
  refine held_take (fun _ => trivial) (by kernel_rfl) (i := 1) (oi := _) (v := ?_) rfl (by kernel_rfl) (by kernel_rfl) (by kernel_rfl) (fun _ _ _ h => h) (by assumption) (Or.inl ⟨by kernel_rfl, ?_⟩) ?_
  rotate_left
  · intro wz hSw; (first | (go_simp; done) | (go_simp; with_reducible rfl))
  (try simp only [Act.put, List.getElem_toArray, List.getElem_cons_zero, List.getElem_cons_succ, List.setIfInBounds_toArray, List.set_cons_zero, List.set_cons_succ])
  refine held_take (fun _ => trivial) (by kernel_rfl) (i := 2) (oi := _) (v := ?_) rfl (by kernel_rfl) (by kernel_rfl) (by kernel_rfl) (fun _ _ _ h => h) (by assumption) (Or.inl ⟨by kernel_rfl, ?_⟩) ?_
  rotate_left
  · intro wz hSw; (first | (go_simp; done) | (go_simp; with_reducible rfl))
  (try simp only [Act.put, List.getElem_toArray, List.getElem_cons_zero, List.getElem_cons_succ, List.setIfInBounds_toArray, List.set_cons_zero, List.set_cons_succ])
  refine held_take (fun _ => trivial) (by kernel_rfl) (i := 3) (oi := _) (v := ?_) rfl (by kernel_rfl) (by kernel_rfl) (by kernel_rfl) (fun _ _ _ h => h) (by assumption) (Or.inl ⟨by kernel_rfl, ?_⟩) ?_
  rotate_left
  · intro wz hSw; (first | (go_simp; done) | (go_simp; with_reducible rfl))
  (try simp only [Act.put, List.getElem_toArray, List.getElem_cons_zero, List.getElem_cons_succ, List.setIfInBounds_toArray, List.set_cons_zero, List.set_cons_succ])
  refine held_take (fun _ => trivial) (by kernel_rfl) (i := 4) (oi := _) (v := ?_) rfl (by kernel_rfl) (by kernel_rfl) (by kernel_rfl) (fun _ _ _ h => h) (by assumption) (Or.inl ⟨by kernel_rfl, ?_⟩) ?_
  rotate_left
  · intro wz hSw; (first | (go_simp; done) | (go_simp; with_reducible rfl))
  (try simp only [Act.put, List.getElem_toArray, List.getElem_cons_zero, List.getElem_cons_succ, List.setIfInBounds_toArray, List.set_cons_zero, List.set_cons_succ])
  refine held_take (fun _ => trivial) (by kernel_rfl) (i := 5) (oi := _) (v := ?_) rfl (by kernel_rfl) (by kernel_rfl) (by kernel_rfl) (fun _ _ _ h => h) (by assumption) (Or.inl ⟨by kernel_rfl, ?_⟩) ?_
  rotate_left
  · intro wz hSw; (first | (go_simp; done) | (go_simp; with_reducible rfl))
  (try simp only [Act.put, List.getElem_toArray, List.getElem_cons_zero, List.getElem_cons_succ, List.setIfInBounds_toArray, List.set_cons_zero, List.set_cons_succ])
  refine held_take (fun _ => trivial) (by kernel_rfl) (i := 6) (oi := _) (v := ?_) rfl (by kernel_rfl) (by kernel_rfl) (by kernel_rfl) (fun _ _ _ h => h) (by assumption) (Or.inl ⟨by kernel_rfl, ?_⟩) ?_
  rotate_left
  · intro wz hSw; (first | (go_simp; done) | (go_simp; with_reducible rfl))
  (try simp only [Act.put, List.getElem_toArray, List.getElem_cons_zero, List.getElem_cons_succ, List.setIfInBounds_toArray, List.set_cons_zero, List.set_cons_succ])
  refine held_take (fun _ => trivial) (by kernel_rfl) (i := 8) (oi := _) (v := .agg (bv M)) rfl (by kernel_rfl) (by kernel_rfl) (by kernel_rfl) (fun _ _ _ h => h) (by assumption) (Or.inl ⟨by kernel_rfl, ?_⟩) ?_
  · intro wz hSw; exact exec_load_row 27 (.tmp 19) (by kernel_rfl) (w7e.heap.size) (by kernel_rfl) _ _ _ _ (BigAt.below hSw Rm.out) Try.underlying27 (by kernel_rfl) (bv_info _)
  (try simp only [Act.put, List.getElem_toArray, List.getElem_cons_zero, List.getElem_cons_succ, List.setIfInBounds_toArray, List.set_cons_zero, List.set_cons_succ])
  refine held_step (fun _ => trivial) (i := 7) (o := _) (by kernel_rfl) rfl (fun K hK => ?_)
  go_simp
  refine ⟨trivial, callsIn_wide.2 ((cOn.out _).mono ?_)⟩
  rintro e y2 ⟨rfl, hc2⟩
  dsimp only
  refine hK.out _ _ (bnext hHeld hc2) (fun hHeld => ?_)
  clear hK K
  (try simp only [Act.put, List.getElem_toArray, List.getElem_cons_zero, List.getElem_cons_succ, List.setIfInBounds_toArray, List.set_cons_zero, List.set_cons_succ])
  refine held_take (fun _ => trivial) (by kernel_rfl) (i := 9) (oi := _) (v := ?_) rfl (by kernel_rfl) (by kernel_rfl) (by kernel_rfl) (fun _ _ _ h => h) (by assumption) (Or.inl ⟨by kernel_rfl, ?_⟩) ?_
  rotate_left
  · intro wz hSw; (first | (go_simp; done) | (go_simp; with_reducible rfl))
  (try simp only [Act.put, List.getElem_toArray, List.getElem_cons_zero, List.getElem_cons_succ, List.setIfInBounds_toArray, List.set_cons_zero, List.set_cons_succ])
  refine held_take (fun _ => trivial) (by kernel_rfl) (i := 10) (oi := _) (v := ?_) rfl (by kernel_rfl) (by kernel_rfl) (by kernel_rfl) (fun _ _ _ h => h) (by assumption) (Or.inl ⟨by kernel_rfl, ?_⟩) ?_
  rotate_left
  · intro wz hSw; (first | (go_simp; done) | (go_simp; with_reducible rfl))
  (try simp only [Act.put, List.getElem_toArray, List.getElem_cons_zero, List.getElem_cons_succ, List.setIfInBounds_toArray, List.set_cons_zero, List.set_cons_succ])
  refine held_take (fun _ => trivial) (by kernel_rfl) (i := 11) (oi := _) (v := ?_) rfl (by kernel_rfl) (by kernel_rfl) (by kernel_rfl) (fun _ _ _ h => h) (by assumption) (Or.inl ⟨by kernel_rfl, ?_⟩) ?_
  rotate_left
  · intro wz hSw; (first | (go_simp; done) | (go_simp; with_reducible rfl))
  (try simp only [Act.put, List.getElem_toArray, List.getElem_cons_zero, List.getElem_cons_succ, List.setIfInBounds_toArray, List.set_cons_zero, List.set_cons_succ])
  refine held_take (fun _ => trivial) (by kernel_rfl) (i := 12) (oi := _) (v := undef) rfl (by kernel_rfl) (by kernel_rfl) (by kernel_rfl) (fun _ _ _ h => h) (by assumption) (Or.inr ⟨by kernel_rfl, rfl⟩) ?_
  (try simp only [Act.put, List.getElem_toArray, List.getElem_cons_zero, List.getElem_cons_succ, List.setIfInBounds_toArray, List.set_cons_zero, List.set_cons_succ])
  refine held_take (fun _ => trivial) (by kernel_rfl) (i := 13) (oi := _) (v := undef) rfl (by kernel_rfl) (by kernel_rfl) (by kernel_rfl) (fun _ _ _ h => h) (by assumption) (Or.inr ⟨by kernel_rfl, rfl⟩) ?_
  (try simp only [Act.put, List.getElem_toArray, List.getElem_cons_zero, List.getElem_cons_succ, List.setIfInBounds_toArray, List.set_cons_zero, List.set_cons_succ])
  refine held_take (fun _ => trivial) (by kernel_rfl) (i := 14) (oi := _) (v := undef) rfl (by kernel_rfl) (by kernel_rfl) (by kernel_rfl) (fun _ _ _ h => h) (by assumption) (Or.inr ⟨by kernel_rfl, rfl⟩) ?_
  (try simp only [Act.put, List.getElem_toArray, List.getElem_cons_zero, List.getElem_cons_succ, List.setIfInBounds_toArray, List.set_cons_zero, List.set_cons_succ])
  refine held_take (fun _ => trivial) (by kernel_rfl) (i := 15) (oi := _) (v := undef) rfl (by kernel_rfl) (by kernel_rfl) (by kernel_rfl) (fun _ _ _ h => h) (by assumption) (Or.inr ⟨by kernel_rfl, rfl⟩) ?_
  (try simp only [Act.put, List.getElem_toArray, List.getElem_cons_zero, List.getElem_cons_succ, List.setIfInBounds_toArray, List.set_cons_zero, List.set_cons_succ])
  refine held_take (fun _ => trivial) (by kernel_rfl) (i := 16) (oi := _) (v := undef) rfl (by kernel_rfl) (by kernel_rfl) (by kernel_rfl) (fun _ _ _ h => h) (by assumption) (Or.inr ⟨by kernel_rfl, rfl⟩) ?_
  (try simp only [Act.put, List.getElem_toArray, List.getElem_cons_zero, List.getElem_cons_succ, List.setIfInBounds_toArray, List.set_cons_zero, List.set_cons_succ])
  refine held_take (fun _ => trivial) (by kernel_rfl) (i := 17) (oi := _) (v := undef) rfl (by kernel_rfl) (by kernel_rfl) (by kernel_rfl) (fun _ _ _ h => h) (by assumption) (Or.inr ⟨by kernel_rfl, rfl⟩) ?_
  (try simp only [Act.put, List.getElem_toArray, List.getElem_cons_zero, List.getElem_cons_succ, List.setIfInBounds_toArray, List.set_cons_zero, List.set_cons_succ])
  refine held_take (fun _ => trivial) (by kernel_rfl) (i := 18) (oi := _) (v := undef) rfl (by kernel_rfl) (by kernel_rfl) (by kernel_rfl) (fun _ _ _ h => h) (by assumption) (Or.inr ⟨by kernel_rfl, rfl⟩) ?_
  (try simp only [Act.put, List.getElem_toArray, List.getElem_cons_zero, List.getElem_cons_succ, List.setIfInBounds_toArray, List.set_cons_zero, List.set_cons_succ])
  refine held_take (fun _ => trivial) (by kernel_rfl) (i := 19) (oi := _) (v := undef) rfl (by kernel_rfl) (by kernel_rfl) (by kernel_rfl) (fun _ _ _ h => h) (by assumption) (Or.inr ⟨by kernel_rfl, rfl⟩) ?_
  (try simp only [Act.put, List.getElem_toArray, List.getElem_cons_zero, List.getElem_cons_succ, List.setIfInBounds_toArray, List.set_cons_zero, List.set_cons_succ])
  refine held_take (fun _ => trivial) (by kernel_rfl) (i := 20) (oi := _) (v := undef) rfl (by kernel_rfl) (by kernel_rfl) (by kernel_rfl) (fun _ _ _ h => h) (by assumption) (Or.inr ⟨by kernel_rfl, rfl⟩) ?_
  (try simp only [Act.put, List.getElem_toArray, List.getElem_cons_zero, List.getElem_cons_succ, List.setIfInBounds_toArray, List.set_cons_zero, List.set_cons_succ])
  refine held_take (fun _ => trivial) (by kernel_rfl) (i := 21) (oi := _) (v := undef) rfl (by kernel_rfl) (by kernel_rfl) (by kernel_rfl) (fun _ _ _ h => h) (by assumption) (Or.inr ⟨by kernel_rfl, rfl⟩) ?_
  (try simp only [Act.put, List.getElem_toArray, List.getElem_cons_zero, List.getElem_cons_succ, List.setIfInBounds_toArray, List.set_cons_zero, List.set_cons_succ])
  refine held_take (fun _ => trivial) (by kernel_rfl) (i := 22) (oi := _) (v := ?_) rfl (by kernel_rfl) (by kernel_rfl) (by kernel_rfl) (fun _ _ _ h => h) (by assumption) (Or.inl ⟨by kernel_rfl, ?_⟩) ?_
  rotate_left
  · intro wz hSw; (first | (go_simp; done) | (go_simp; with_reducible rfl))
  (try simp only [Act.put, List.getElem_toArray, List.getElem_cons_zero, List.getElem_cons_succ, List.setIfInBounds_toArray, List.set_cons_zero, List.set_cons_succ])
  refine held_take (fun _ => trivial) (by kernel_rfl) (i := 23) (oi := _) (v := ?_) rfl (by kernel_rfl) (by kernel_rfl) (by kernel_rfl) (fun _ _ _ h => h) (by assumption) (Or.inl ⟨by kernel_rfl, ?_⟩) ?_
  rotate_left
  · intro wz hSw; (first | (go_simp; done) | (go_simp; with_reducible rfl))
  (try simp only [Act.put, List.getElem_toArray, List.getElem_cons_zero, List.getElem_cons_succ, List.setIfInBounds_toArray, List.set_cons_zero, List.set_cons_succ])
  refine held_done (by kernel_rfl) ?_ _
  refine hK14 _ _ ?_
  have HE := Lib.hid (bnext HB.out hHeld)
  clear hHeld
  go_wp2_with fail
  go_ret
  exact ⟨rfl, HE.out⟩
end Go.Proofs.Ytgkcbadfjhicnaa.Fx
