/- WideDivides: two cases walked, and all joined. -/
import Derived.Test.YtgkcbadfjhicnaaProg
import Derived.Test.YtgkcbadfjhicnaaD3
import Derived.Test.YtgkcbadfjhicnaaW7
import Derived.Test.YtgkcbadfjhicnaaD5
import Derived.Test.YtgkcbadfjhicnaaD6
import Derived.OpenShut
set_option linter.unusedVariables false
set_option linter.unusedSimpArgs false
namespace Go.Proofs.Ytgkcbadfjhicnaa.Fx
open Go Go.RowKit Wm
set_option maxRecDepth 100000 in
set_option maxHeartbeats 4000000 in
theorem divides_zero (a b c X P S PR M N t nt xh qh r g : Int) (xl ql : Nat) (w : World)
    (cWD : Hid (Ans 25 #[.agg #[.int .i64 xh, .int .u64 xl], .int .i64 c] (.tuple #[.agg #[.int .i64 qh, .int .u64 ql], .int .i64 r, .int .i64 21])))
    (cF : Hid (Ans 9 #[.agg #[.int .i64 xh, .int .u64 xl]] (.agg (bv X))))
    (cOc : Hid (Ans 12 #[.int .i64 c] (.agg (bv c))))
    (cD : Hid (Ans 26 #[.agg (bv X), .agg (bv c)] (.tuple #[.agg (bv P), .agg (bv S), .int .i64 21])))
    (cC : Hid (Ans 14 #[.agg (bv P)] (.tuple #[.agg #[.int .i64 qh, .int .u64 ql], .int .i64 g])))
    (cWM : Hid (Ans 27 #[.int .i64 a, .int .i64 b, .int .i64 c] (.tuple #[.int .i64 0, .int .i64 21])))
    : Calls Try.prog 4 #[.agg #[.int .i64 xh, .int .u64 xl], .int .i64 a, .int .i64 b, .int .i64 c] w fun e w' => e = .returned (.bool true) ∧ Below w.heap.size w w' := by
  have Rx : Hid (WideAt w.heap.size xh xl (w.alloc (.cells #[.int .i64 xh, .int .u64 xl] 24))) := Lib.hid (heap_alloc_new _ _)
  have HB : Hid (Below w.heap.size w (w.alloc (.cells #[.int .i64 xh, .int .u64 xl] 24))) := Lib.hid (by go_grown)
  go_enter Try.func4, Try.ntmps4
  go_wp2_with (refine wpList_load_row rfl 24 (.tmp 4) rfl (w.heap.size) rfl _ _ _ _ Rx.out Try.underlying24 rfl (by kernel_rfl) ?_)
  refine (cWD.out _).mono ?_
  rintro e w1 ⟨rfl, hbn⟩
  have Bn := bnext HB.out hbn
  have HBn : Hid (Below w.heap.size w (w1.alloc (.cells #[.int .i64 qh, .int .u64 ql] 24))) := Lib.hid (Bn.alloc Bn.size _)
  clear HB
  have HB := HBn
  clear HBn
  replace Rx : Hid (WideAt (w.heap.size) xh xl (w1.alloc (.cells #[.int .i64 qh, .int .u64 ql] 24))) := Lib.hid (step_row (WideAt.below hbn Rx.out))
  have Rq : Hid (WideAt (w1.heap.size) qh ql (w1.alloc (.cells #[.int .i64 qh, .int .u64 ql] 24))) := Lib.hid (heap_alloc_new _ _)
  clear hbn Bn
  go_wp2_with (refine wpList_load_row rfl 24 (.tmp 4) rfl (w.heap.size) rfl _ _ _ _ Rx.out Try.underlying24 rfl (by kernel_rfl) ?_)
  refine (cF.out _).mono ?_
  rintro e w2 ⟨rfl, hbn⟩
  have Bn := bnext HB.out hbn
  have HBn : Hid (Below w.heap.size w w2) := Lib.hid (Bn)
  clear HB
  have HB := HBn
  clear HBn
  replace Rx : Hid (WideAt (w.heap.size) xh xl w2) := Lib.hid (WideAt.below hbn Rx.out)
  replace Rq : Hid (WideAt (w1.heap.size) qh ql w2) := Lib.hid (WideAt.below hbn Rq.out)
  clear hbn Bn
  go_wp2_with fail
  refine (cOc.out _).mono ?_
  rintro e w3 ⟨rfl, hbn⟩
  have Bn := bnext HB.out hbn
  have HBn : Hid (Below w.heap.size w w3) := Lib.hid (Bn)
  clear HB
  have HB := HBn
  clear HBn
  replace Rx : Hid (WideAt (w.heap.size) xh xl w3) := Lib.hid (WideAt.below hbn Rx.out)
  replace Rq : Hid (WideAt (w1.heap.size) qh ql w3) := Lib.hid (WideAt.below hbn Rq.out)
  clear hbn Bn
  go_wp2_with fail
  refine (cD.out _).mono ?_
  rintro e w4 ⟨rfl, hbn⟩
  have Bn := bnext HB.out hbn
  have Z1 : Hid (BigAt (w4.heap.size) 0 ((w4.alloc (.cells #[.bool false, .int .u64 0, .int .u64 0, .int .u64 0, .int .u64 0, .int .u64 0, .int .u64 0, .int .u64 0, .int .u64 0, .int .u64 0, .int .u64 0, .int .u64 0, .int .u64 0, .int .u64 0, .int .u64 0, .int .u64 0, .int .u64 0, .int .u64 0, .int .u64 0, .int .u64 0, .int .u64 0] 27)).alloc (.cells #[.bool false, .int .u64 0, .int .u64 0, .int .u64 0, .int .u64 0, .int .u64 0, .int .u64 0, .int .u64 0, .int .u64 0, .int .u64 0, .int .u64 0, .int .u64 0, .int .u64 0, .int .u64 0, .int .u64 0, .int .u64 0, .int .u64 0, .int .u64 0, .int .u64 0, .int .u64 0, .int .u64 0] 27))) := Lib.hid (step_row (heap_alloc_new _ _))
  have Z2 : Hid (BigAt (w4.heap.size + 1) 0 (((w4.alloc (.cells #[.bool false, .int .u64 0, .int .u64 0, .int .u64 0, .int .u64 0, .int .u64 0, .int .u64 0, .int .u64 0, .int .u64 0, .int .u64 0, .int .u64 0, .int .u64 0, .int .u64 0, .int .u64 0, .int .u64 0, .int .u64 0, .int .u64 0, .int .u64 0, .int .u64 0, .int .u64 0, .int .u64 0] 27)).alloc (.cells #[.bool false, .int .u64 0, .int .u64 0, .int .u64 0, .int .u64 0, .int .u64 0, .int .u64 0, .int .u64 0, .int .u64 0, .int .u64 0, .int .u64 0, .int .u64 0, .int .u64 0, .int .u64 0, .int .u64 0, .int .u64 0, .int .u64 0, .int .u64 0, .int .u64 0, .int .u64 0, .int .u64 0] 27)).setRow (w4.heap.size) (bv P))) := Lib.hid (BigAt.other (k := w4.heap.size) (show BigAt (w4.heap.size + 1) 0 ((w4.alloc (.cells #[.bool false, .int .u64 0, .int .u64 0, .int .u64 0, .int .u64 0, .int .u64 0, .int .u64 0, .int .u64 0, .int .u64 0, .int .u64 0, .int .u64 0, .int .u64 0, .int .u64 0, .int .u64 0, .int .u64 0, .int .u64 0, .int .u64 0, .int .u64 0, .int .u64 0, .int .u64 0, .int .u64 0] 27)).alloc (.cells #[.bool false, .int .u64 0, .int .u64 0, .int .u64 0, .int .u64 0, .int .u64 0, .int .u64 0, .int .u64 0, .int .u64 0, .int .u64 0, .int .u64 0, .int .u64 0, .int .u64 0, .int .u64 0, .int .u64 0, .int .u64 0, .int .u64 0, .int .u64 0, .int .u64 0, .int .u64 0, .int .u64 0] 27)) from heap_alloc2_new _ _ _) (by omega) _)
  have Bz : Below w4.heap.size w4 ((((w4.alloc (.cells #[.bool false, .int .u64 0, .int .u64 0, .int .u64 0, .int .u64 0, .int .u64 0, .int .u64 0, .int .u64 0, .int .u64 0, .int .u64 0, .int .u64 0, .int .u64 0, .int .u64 0, .int .u64 0, .int .u64 0, .int .u64 0, .int .u64 0, .int .u64 0, .int .u64 0, .int .u64 0, .int .u64 0] 27)).alloc (.cells #[.bool false, .int .u64 0, .int .u64 0, .int .u64 0, .int .u64 0, .int .u64 0, .int .u64 0, .int .u64 0, .int .u64 0, .int .u64 0, .int .u64 0, .int .u64 0, .int .u64 0, .int .u64 0, .int .u64 0, .int .u64 0, .int .u64 0, .int .u64 0, .int .u64 0, .int .u64 0, .int .u64 0] 27)).setRow (w4.heap.size) (bv P)).setRow (w4.heap.size + 1) (bv S)) := Below.row (Below.row (by go_grown) (Nat.le_refl _) _) (by omega) _
  have HBn : Hid (Below w.heap.size w ((((w4.alloc (.cells #[.bool false, .int .u64 0, .int .u64 0, .int .u64 0, .int .u64 0, .int .u64 0, .int .u64 0, .int .u64 0, .int .u64 0, .int .u64 0, .int .u64 0, .int .u64 0, .int .u64 0, .int .u64 0, .int .u64 0, .int .u64 0, .int .u64 0, .int .u64 0, .int .u64 0, .int .u64 0, .int .u64 0] 27)).alloc (.cells #[.bool false, .int .u64 0, .int .u64 0, .int .u64 0, .int .u64 0, .int .u64 0, .int .u64 0, .int .u64 0, .int .u64 0, .int .u64 0, .int .u64 0, .int .u64 0, .int .u64 0, .int .u64 0, .int .u64 0, .int .u64 0, .int .u64 0, .int .u64 0, .int .u64 0, .int .u64 0, .int .u64 0] 27)).setRow (w4.heap.size) (bv P)).setRow (w4.heap.size + 1) (bv S))) := Lib.hid (bnext Bn Bz)
  clear HB
  have HB := HBn
  clear HBn
  replace Rx : Hid (WideAt (w.heap.size) xh xl ((((w4.alloc (.cells #[.bool false, .int .u64 0, .int .u64 0, .int .u64 0, .int .u64 0, .int .u64 0, .int .u64 0, .int .u64 0, .int .u64 0, .int .u64 0, .int .u64 0, .int .u64 0, .int .u64 0, .int .u64 0, .int .u64 0, .int .u64 0, .int .u64 0, .int .u64 0, .int .u64 0, .int .u64 0, .int .u64 0] 27)).alloc (.cells #[.bool false, .int .u64 0, .int .u64 0, .int .u64 0, .int .u64 0, .int .u64 0, .int .u64 0, .int .u64 0, .int .u64 0, .int .u64 0, .int .u64 0, .int .u64 0, .int .u64 0, .int .u64 0, .int .u64 0, .int .u64 0, .int .u64 0, .int .u64 0, .int .u64 0, .int .u64 0, .int .u64 0] 27)).setRow (w4.heap.size) (bv P)).setRow (w4.heap.size + 1) (bv S))) := Lib.hid (WideAt.below Bz (WideAt.below hbn Rx.out))
  replace Rq : Hid (WideAt (w1.heap.size) qh ql ((((w4.alloc (.cells #[.bool false, .int .u64 0, .int .u64 0, .int .u64 0, .int .u64 0, .int .u64 0, .int .u64 0, .int .u64 0, .int .u64 0, .int .u64 0, .int .u64 0, .int .u64 0, .int .u64 0, .int .u64 0, .int .u64 0, .int .u64 0, .int .u64 0, .int .u64 0, .int .u64 0, .int .u64 0, .int .u64 0] 27)).alloc (.cells #[.bool false, .int .u64 0, .int .u64 0, .int .u64 0, .int .u64 0, .int .u64 0, .int .u64 0, .int .u64 0, .int .u64 0, .int .u64 0, .int .u64 0, .int .u64 0, .int .u64 0, .int .u64 0, .int .u64 0, .int .u64 0, .int .u64 0, .int .u64 0, .int .u64 0, .int .u64 0, .int .u64 0] 27)).setRow (w4.heap.size) (bv P)).setRow (w4.heap.size + 1) (bv S))) := Lib.hid (WideAt.below Bz (WideAt.below hbn Rq.out))
  have Rp : Hid (BigAt (w4.heap.size) P ((((w4.alloc (.cells #[.bool false, .int .u64 0, .int .u64 0, .int .u64 0, .int .u64 0, .int .u64 0, .int .u64 0, .int .u64 0, .int .u64 0, .int .u64 0, .int .u64 0, .int .u64 0, .int .u64 0, .int .u64 0, .int .u64 0, .int .u64 0, .int .u64 0, .int .u64 0, .int .u64 0, .int .u64 0, .int .u64 0] 27)).alloc (.cells #[.bool false, .int .u64 0, .int .u64 0, .int .u64 0, .int .u64 0, .int .u64 0, .int .u64 0, .int .u64 0, .int .u64 0, .int .u64 0, .int .u64 0, .int .u64 0, .int .u64 0, .int .u64 0, .int .u64 0, .int .u64 0, .int .u64 0, .int .u64 0, .int .u64 0, .int .u64 0, .int .u64 0] 27)).setRow (w4.heap.size) (bv P)).setRow (w4.heap.size + 1) (bv S))) := Lib.hid (BigAt.other (k := w4.heap.size + 1) (BigAt.row Z1.out P) (by omega) _)
  have Rs : Hid (BigAt (w4.heap.size + 1) S ((((w4.alloc (.cells #[.bool false, .int .u64 0, .int .u64 0, .int .u64 0, .int .u64 0, .int .u64 0, .int .u64 0, .int .u64 0, .int .u64 0, .int .u64 0, .int .u64 0, .int .u64 0, .int .u64 0, .int .u64 0, .int .u64 0, .int .u64 0, .int .u64 0, .int .u64 0, .int .u64 0, .int .u64 0, .int .u64 0] 27)).alloc (.cells #[.bool false, .int .u64 0, .int .u64 0, .int .u64 0, .int .u64 0, .int .u64 0, .int .u64 0, .int .u64 0, .int .u64 0, .int .u64 0, .int .u64 0, .int .u64 0, .int .u64 0, .int .u64 0, .int .u64 0, .int .u64 0, .int .u64 0, .int .u64 0, .int .u64 0, .int .u64 0, .int .u64 0] 27)).setRow (w4.heap.size) (bv P)).setRow (w4.heap.size + 1) (bv S))) := Lib.hid (BigAt.row Z2.out S)
  clear hbn Bn Bz
  go_wp2_with (first | (refine wpList_store_big rfl 27 (.tmp 12) (.tmp 36) rfl (w4.heap.size) _ _ (bv P) rfl rfl Z1.out (bv_info _) (bv_same _ _) (bv_one _) ?_) | (refine wpList_store_big rfl 27 (.tmp 13) (.tmp 37) rfl (w4.heap.size + 1) _ _ (bv S) rfl rfl Z2.out (bv_info _) (bv_same _ _) (bv_one _) ?_) | (refine wpList_load_row rfl 27 (.tmp 12) rfl (w4.heap.size) rfl _ _ _ _ Rp.out Try.underlying27 rfl (bv_info _) ?_))
  refine (cC.out _).mono ?_
  rintro e w5 ⟨rfl, hbn⟩
  have Bn := bnext HB.out hbn
  have HBn : Hid (Below w.heap.size w (w5.alloc (.cells #[.int .i64 qh, .int .u64 ql] 24))) := Lib.hid (Bn.alloc Bn.size _)
  clear HB
  have HB := HBn
  clear HBn
  replace Rx : Hid (WideAt (w.heap.size) xh xl (w5.alloc (.cells #[.int .i64 qh, .int .u64 ql] 24))) := Lib.hid (step_row (WideAt.below hbn Rx.out))
  replace Rq : Hid (WideAt (w1.heap.size) qh ql (w5.alloc (.cells #[.int .i64 qh, .int .u64 ql] 24))) := Lib.hid (step_row (WideAt.below hbn Rq.out))
  replace Rp : Hid (BigAt (w4.heap.size) P (w5.alloc (.cells #[.int .i64 qh, .int .u64 ql] 24))) := Lib.hid (step_row (BigAt.below hbn Rp.out))
  replace Rs : Hid (BigAt (w4.heap.size + 1) S (w5.alloc (.cells #[.int .i64 qh, .int .u64 ql] 24))) := Lib.hid (step_row (BigAt.below hbn Rs.out))
  have Rv : Hid (WideAt (w5.heap.size) qh ql (w5.alloc (.cells #[.int .i64 qh, .int .u64 ql] 24))) := Lib.hid (heap_alloc_new _ _)
  clear hbn Bn
  go_wp2_with fail
  refine (cWM.out _).mono ?_
  rintro e w6 ⟨rfl, hbn⟩
  have Bn := bnext HB.out hbn
  have HBn : Hid (Below w.heap.size w w6) := Lib.hid (Bn)
  clear HB
  have HB := HBn
  clear HBn
  replace Rx : Hid (WideAt (w.heap.size) xh xl w6) := Lib.hid (WideAt.below hbn Rx.out)
  replace Rq : Hid (WideAt (w1.heap.size) qh ql w6) := Lib.hid (WideAt.below hbn Rq.out)
  replace Rp : Hid (BigAt (w4.heap.size) P w6) := Lib.hid (BigAt.below hbn Rp.out)
  replace Rs : Hid (BigAt (w4.heap.size + 1) S w6) := Lib.hid (BigAt.below hbn Rs.out)
  replace Rv : Hid (WideAt (w5.heap.size) qh ql w6) := Lib.hid (WideAt.below hbn Rv.out)
  clear hbn Bn
  go_wp2_with fail
  go_ret
  exact ⟨rfl, HB.out⟩
set_option maxRecDepth 100000 in
set_option maxHeartbeats 4000000 in
theorem divides_small (a b c X P S PR M N t nt xh qh r : Int) (xl ql : Nat) (w : World)
    (cWD : Hid (Ans 25 #[.agg #[.int .i64 xh, .int .u64 xl], .int .i64 c] (.tuple #[.agg #[.int .i64 qh, .int .u64 ql], .int .i64 r, .int .i64 0])))
    (cF : Hid (Ans 9 #[.agg #[.int .i64 xh, .int .u64 xl]] (.agg (bv X))))
    (cOc : Hid (Ans 12 #[.int .i64 c] (.agg (bv c))))
    (cD : Hid (Ans 26 #[.agg (bv X), .agg (bv c)] (.tuple #[.agg (bv P), .agg (bv S), .int .i64 0])))
    (cC : Hid (Ans 14 #[.agg (bv P)] (.tuple #[.agg #[.int .i64 qh, .int .u64 ql], .int .i64 0])))
    (cWM : Hid (Ans 27 #[.int .i64 a, .int .i64 b, .int .i64 c] (.tuple #[.int .i64 0, .int .i64 20])))
    (cOr : Hid (Ans 12 #[.int .i64 r] (.agg (bv S))))
    (cOa : Hid (Ans 12 #[.int .i64 a] (.agg (bv a))))
    (cOb : Hid (Ans 12 #[.int .i64 b] (.agg (bv b))))
    (cMu : Hid (Ans 11 #[.agg (bv a), .agg (bv b)] (.agg (bv PR))))
    (cD2 : Hid (Ans 26 #[.agg (bv PR), .agg (bv c)] (.tuple #[.agg (bv M), .agg (bv N), .int .i64 0])))
    (cTw : Hid (Ans 20 #[.int .i64 63] (.agg (bv t))))
    (cNt : Hid (Ans 17 #[.agg (bv t)] (.agg (bv nt))))
    (cL3 : Hid (Ans 18 #[.agg (bv M), .agg (bv nt)] (.bool true)))
    : Calls Try.prog 4 #[.agg #[.int .i64 xh, .int .u64 xl], .int .i64 a, .int .i64 b, .int .i64 c] w fun e w' => e = .returned (.bool true) ∧ Below w.heap.size w w' := by
  have Rx : Hid (WideAt w.heap.size xh xl (w.alloc (.cells #[.int .i64 xh, .int .u64 xl] 24))) := Lib.hid (heap_alloc_new _ _)
  have HB : Hid (Below w.heap.size w (w.alloc (.cells #[.int .i64 xh, .int .u64 xl] 24))) := Lib.hid (by go_grown)
  go_enter Try.func4, Try.ntmps4
  go_wp2_with (refine wpList_load_row rfl 24 (.tmp 4) rfl (w.heap.size) rfl _ _ _ _ Rx.out Try.underlying24 rfl (by kernel_rfl) ?_)
  refine (cWD.out _).mono ?_
  rintro e w1 ⟨rfl, hbn⟩
  have Bn := bnext HB.out hbn
  have HBn : Hid (Below w.heap.size w (w1.alloc (.cells #[.int .i64 qh, .int .u64 ql] 24))) := Lib.hid (Bn.alloc Bn.size _)
  clear HB
  have HB := HBn
  clear HBn
  replace Rx : Hid (WideAt (w.heap.size) xh xl (w1.alloc (.cells #[.int .i64 qh, .int .u64 ql] 24))) := Lib.hid (step_row (WideAt.below hbn Rx.out))
  have Rq : Hid (WideAt (w1.heap.size) qh ql (w1.alloc (.cells #[.int .i64 qh, .int .u64 ql] 24))) := Lib.hid (heap_alloc_new _ _)
  clear hbn Bn
  go_wp2_with (refine wpList_load_row rfl 24 (.tmp 4) rfl (w.heap.size) rfl _ _ _ _ Rx.out Try.underlying24 rfl (by kernel_rfl) ?_)
  refine (cF.out _).mono ?_
  rintro e w2 ⟨rfl, hbn⟩
  have Bn := bnext HB.out hbn
  have HBn : Hid (Below w.heap.size w w2) := Lib.hid (Bn)
  clear HB
  have HB := HBn
  clear HBn
  replace Rx : Hid (WideAt (w.heap.size) xh xl w2) := Lib.hid (WideAt.below hbn Rx.out)
  replace Rq : Hid (WideAt (w1.heap.size) qh ql w2) := Lib.hid (WideAt.below hbn Rq.out)
  clear hbn Bn
  go_wp2_with fail
  refine (cOc.out _).mono ?_
  rintro e w3 ⟨rfl, hbn⟩
  have Bn := bnext HB.out hbn
  have HBn : Hid (Below w.heap.size w w3) := Lib.hid (Bn)
  clear HB
  have HB := HBn
  clear HBn
  replace Rx : Hid (WideAt (w.heap.size) xh xl w3) := Lib.hid (WideAt.below hbn Rx.out)
  replace Rq : Hid (WideAt (w1.heap.size) qh ql w3) := Lib.hid (WideAt.below hbn Rq.out)
  clear hbn Bn
  go_wp2_with fail
  refine (cD.out _).mono ?_
  rintro e w4 ⟨rfl, hbn⟩
  have Bn := bnext HB.out hbn
  have Z1 : Hid (BigAt (w4.heap.size) 0 ((w4.alloc (.cells #[.bool false, .int .u64 0, .int .u64 0, .int .u64 0, .int .u64 0, .int .u64 0, .int .u64 0, .int .u64 0, .int .u64 0, .int .u64 0, .int .u64 0, .int .u64 0, .int .u64 0, .int .u64 0, .int .u64 0, .int .u64 0, .int .u64 0, .int .u64 0, .int .u64 0, .int .u64 0, .int .u64 0] 27)).alloc (.cells #[.bool false, .int .u64 0, .int .u64 0, .int .u64 0, .int .u64 0, .int .u64 0, .int .u64 0, .int .u64 0, .int .u64 0, .int .u64 0, .int .u64 0, .int .u64 0, .int .u64 0, .int .u64 0, .int .u64 0, .int .u64 0, .int .u64 0, .int .u64 0, .int .u64 0, .int .u64 0, .int .u64 0] 27))) := Lib.hid (step_row (heap_alloc_new _ _))
  have Z2 : Hid (BigAt (w4.heap.size + 1) 0 (((w4.alloc (.cells #[.bool false, .int .u64 0, .int .u64 0, .int .u64 0, .int .u64 0, .int .u64 0, .int .u64 0, .int .u64 0, .int .u64 0, .int .u64 0, .int .u64 0, .int .u64 0, .int .u64 0, .int .u64 0, .int .u64 0, .int .u64 0, .int .u64 0, .int .u64 0, .int .u64 0, .int .u64 0, .int .u64 0] 27)).alloc (.cells #[.bool false, .int .u64 0, .int .u64 0, .int .u64 0, .int .u64 0, .int .u64 0, .int .u64 0, .int .u64 0, .int .u64 0, .int .u64 0, .int .u64 0, .int .u64 0, .int .u64 0, .int .u64 0, .int .u64 0, .int .u64 0, .int .u64 0, .int .u64 0, .int .u64 0, .int .u64 0, .int .u64 0] 27)).setRow (w4.heap.size) (bv P))) := Lib.hid (BigAt.other (k := w4.heap.size) (show BigAt (w4.heap.size + 1) 0 ((w4.alloc (.cells #[.bool false, .int .u64 0, .int .u64 0, .int .u64 0, .int .u64 0, .int .u64 0, .int .u64 0, .int .u64 0, .int .u64 0, .int .u64 0, .int .u64 0, .int .u64 0, .int .u64 0, .int .u64 0, .int .u64 0, .int .u64 0, .int .u64 0, .int .u64 0, .int .u64 0, .int .u64 0, .int .u64 0] 27)).alloc (.cells #[.bool false, .int .u64 0, .int .u64 0, .int .u64 0, .int .u64 0, .int .u64 0, .int .u64 0, .int .u64 0, .int .u64 0, .int .u64 0, .int .u64 0, .int .u64 0, .int .u64 0, .int .u64 0, .int .u64 0, .int .u64 0, .int .u64 0, .int .u64 0, .int .u64 0, .int .u64 0, .int .u64 0] 27)) from heap_alloc2_new _ _ _) (by omega) _)
  have Bz : Below w4.heap.size w4 ((((w4.alloc (.cells #[.bool false, .int .u64 0, .int .u64 0, .int .u64 0, .int .u64 0, .int .u64 0, .int .u64 0, .int .u64 0, .int .u64 0, .int .u64 0, .int .u64 0, .int .u64 0, .int .u64 0, .int .u64 0, .int .u64 0, .int .u64 0, .int .u64 0, .int .u64 0, .int .u64 0, .int .u64 0, .int .u64 0] 27)).alloc (.cells #[.bool false, .int .u64 0, .int .u64 0, .int .u64 0, .int .u64 0, .int .u64 0, .int .u64 0, .int .u64 0, .int .u64 0, .int .u64 0, .int .u64 0, .int .u64 0, .int .u64 0, .int .u64 0, .int .u64 0, .int .u64 0, .int .u64 0, .int .u64 0, .int .u64 0, .int .u64 0, .int .u64 0] 27)).setRow (w4.heap.size) (bv P)).setRow (w4.heap.size + 1) (bv S)) := Below.row (Below.row (by go_grown) (Nat.le_refl _) _) (by omega) _
  have HBn : Hid (Below w.heap.size w ((((w4.alloc (.cells #[.bool false, .int .u64 0, .int .u64 0, .int .u64 0, .int .u64 0, .int .u64 0, .int .u64 0, .int .u64 0, .int .u64 0, .int .u64 0, .int .u64 0, .int .u64 0, .int .u64 0, .int .u64 0, .int .u64 0, .int .u64 0, .int .u64 0, .int .u64 0, .int .u64 0, .int .u64 0, .int .u64 0] 27)).alloc (.cells #[.bool false, .int .u64 0, .int .u64 0, .int .u64 0, .int .u64 0, .int .u64 0, .int .u64 0, .int .u64 0, .int .u64 0, .int .u64 0, .int .u64 0, .int .u64 0, .int .u64 0, .int .u64 0, .int .u64 0, .int .u64 0, .int .u64 0, .int .u64 0, .int .u64 0, .int .u64 0, .int .u64 0] 27)).setRow (w4.heap.size) (bv P)).setRow (w4.heap.size + 1) (bv S))) := Lib.hid (bnext Bn Bz)
  clear HB
  have HB := HBn
  clear HBn
  replace Rx : Hid (WideAt (w.heap.size) xh xl ((((w4.alloc (.cells #[.bool false, .int .u64 0, .int .u64 0, .int .u64 0, .int .u64 0, .int .u64 0, .int .u64 0, .int .u64 0, .int .u64 0, .int .u64 0, .int .u64 0, .int .u64 0, .int .u64 0, .int .u64 0, .int .u64 0, .int .u64 0, .int .u64 0, .int .u64 0, .int .u64 0, .int .u64 0, .int .u64 0] 27)).alloc (.cells #[.bool false, .int .u64 0, .int .u64 0, .int .u64 0, .int .u64 0, .int .u64 0, .int .u64 0, .int .u64 0, .int .u64 0, .int .u64 0, .int .u64 0, .int .u64 0, .int .u64 0, .int .u64 0, .int .u64 0, .int .u64 0, .int .u64 0, .int .u64 0, .int .u64 0, .int .u64 0, .int .u64 0] 27)).setRow (w4.heap.size) (bv P)).setRow (w4.heap.size + 1) (bv S))) := Lib.hid (WideAt.below Bz (WideAt.below hbn Rx.out))
  replace Rq : Hid (WideAt (w1.heap.size) qh ql ((((w4.alloc (.cells #[.bool false, .int .u64 0, .int .u64 0, .int .u64 0, .int .u64 0, .int .u64 0, .int .u64 0, .int .u64 0, .int .u64 0, .int .u64 0, .int .u64 0, .int .u64 0, .int .u64 0, .int .u64 0, .int .u64 0, .int .u64 0, .int .u64 0, .int .u64 0, .int .u64 0, .int .u64 0, .int .u64 0] 27)).alloc (.cells #[.bool false, .int .u64 0, .int .u64 0, .int .u64 0, .int .u64 0, .int .u64 0, .int .u64 0, .int .u64 0, .int .u64 0, .int .u64 0, .int .u64 0, .int .u64 0, .int .u64 0, .int .u64 0, .int .u64 0, .int .u64 0, .int .u64 0, .int .u64 0, .int .u64 0, .int .u64 0, .int .u64 0] 27)).setRow (w4.heap.size) (bv P)).setRow (w4.heap.size + 1) (bv S))) := Lib.hid (WideAt.below Bz (WideAt.below hbn Rq.out))
  have Rp : Hid (BigAt (w4.heap.size) P ((((w4.alloc (.cells #[.bool false, .int .u64 0, .int .u64 0, .int .u64 0, .int .u64 0, .int .u64 0, .int .u64 0, .int .u64 0, .int .u64 0, .int .u64 0, .int .u64 0, .int .u64 0, .int .u64 0, .int .u64 0, .int .u64 0, .int .u64 0, .int .u64 0, .int .u64 0, .int .u64 0, .int .u64 0, .int .u64 0] 27)).alloc (.cells #[.bool false, .int .u64 0, .int .u64 0, .int .u64 0, .int .u64 0, .int .u64 0, .int .u64 0, .int .u64 0, .int .u64 0, .int .u64 0, .int .u64 0, .int .u64 0, .int .u64 0, .int .u64 0, .int .u64 0, .int .u64 0, .int .u64 0, .int .u64 0, .int .u64 0, .int .u64 0, .int .u64 0] 27)).setRow (w4.heap.size) (bv P)).setRow (w4.heap.size + 1) (bv S))) := Lib.hid (BigAt.other (k := w4.heap.size + 1) (BigAt.row Z1.out P) (by omega) _)
  have Rs : Hid (BigAt (w4.heap.size + 1) S ((((w4.alloc (.cells #[.bool false, .int .u64 0, .int .u64 0, .int .u64 0, .int .u64 0, .int .u64 0, .int .u64 0, .int .u64 0, .int .u64 0, .int .u64 0, .int .u64 0, .int .u64 0, .int .u64 0, .int .u64 0, .int .u64 0, .int .u64 0, .int .u64 0, .int .u64 0, .int .u64 0, .int .u64 0, .int .u64 0] 27)).alloc (.cells #[.bool false, .int .u64 0, .int .u64 0, .int .u64 0, .int .u64 0, .int .u64 0, .int .u64 0, .int .u64 0, .int .u64 0, .int .u64 0, .int .u64 0, .int .u64 0, .int .u64 0, .int .u64 0, .int .u64 0, .int .u64 0, .int .u64 0, .int .u64 0, .int .u64 0, .int .u64 0, .int .u64 0] 27)).setRow (w4.heap.size) (bv P)).setRow (w4.heap.size + 1) (bv S))) := Lib.hid (BigAt.row Z2.out S)
  clear hbn Bn Bz
  go_wp2_with (first | (refine wpList_store_big rfl 27 (.tmp 12) (.tmp 36) rfl (w4.heap.size) _ _ (bv P) rfl rfl Z1.out (bv_info _) (bv_same _ _) (bv_one _) ?_) | (refine wpList_store_big rfl 27 (.tmp 13) (.tmp 37) rfl (w4.heap.size + 1) _ _ (bv S) rfl rfl Z2.out (bv_info _) (bv_same _ _) (bv_one _) ?_) | (refine wpList_load_row rfl 27 (.tmp 12) rfl (w4.heap.size) rfl _ _ _ _ Rp.out Try.underlying27 rfl (bv_info _) ?_))
  refine (cC.out _).mono ?_
  rintro e w5 ⟨rfl, hbn⟩
  have Bn := bnext HB.out hbn
  have HBn : Hid (Below w.heap.size w (w5.alloc (.cells #[.int .i64 qh, .int .u64 ql] 24))) := Lib.hid (Bn.alloc Bn.size _)
  clear HB
  have HB := HBn
  clear HBn
  replace Rx : Hid (WideAt (w.heap.size) xh xl (w5.alloc (.cells #[.int .i64 qh, .int .u64 ql] 24))) := Lib.hid (step_row (WideAt.below hbn Rx.out))
  replace Rq : Hid (WideAt (w1.heap.size) qh ql (w5.alloc (.cells #[.int .i64 qh, .int .u64 ql] 24))) := Lib.hid (step_row (WideAt.below hbn Rq.out))
  replace Rp : Hid (BigAt (w4.heap.size) P (w5.alloc (.cells #[.int .i64 qh, .int .u64 ql] 24))) := Lib.hid (step_row (BigAt.below hbn Rp.out))
  replace Rs : Hid (BigAt (w4.heap.size + 1) S (w5.alloc (.cells #[.int .i64 qh, .int .u64 ql] 24))) := Lib.hid (step_row (BigAt.below hbn Rs.out))
  have Rv : Hid (WideAt (w5.heap.size) qh ql (w5.alloc (.cells #[.int .i64 qh, .int .u64 ql] 24))) := Lib.hid (heap_alloc_new _ _)
  clear hbn Bn
  go_wp2_with fail
  refine (cWM.out _).mono ?_
  rintro e w6 ⟨rfl, hbn⟩
  have Bn := bnext HB.out hbn
  have HBn : Hid (Below w.heap.size w w6) := Lib.hid (Bn)
  clear HB
  have HB := HBn
  clear HBn
  replace Rx : Hid (WideAt (w.heap.size) xh xl w6) := Lib.hid (WideAt.below hbn Rx.out)
  replace Rq : Hid (WideAt (w1.heap.size) qh ql w6) := Lib.hid (WideAt.below hbn Rq.out)
  replace Rp : Hid (BigAt (w4.heap.size) P w6) := Lib.hid (BigAt.below hbn Rp.out)
  replace Rs : Hid (BigAt (w4.heap.size + 1) S w6) := Lib.hid (BigAt.below hbn Rs.out)
  replace Rv : Hid (WideAt (w5.heap.size) qh ql w6) := Lib.hid (WideAt.below hbn Rv.out)
  clear hbn Bn
  go_wp2_with fail
  rename_i K12 hK12 K10 hK10
  have hnb := fun W => ne_big S W
  refine (wpIn_wide (n := 5)).1 (held_region (F := Fence.wide) (S := fun X => Below w6.heap.size w6 X) (by kernel_rfl) (bdrew0 _ _ 1) (fun hHeld => ?_))
  refine held_take (fun _ => trivial) (by kernel_rfl) (i := 0) (oi := _) (v := ?_) rfl (by kernel_rfl) (by kernel_rfl) (by kernel_rfl) (fun _ _ _ h => h) (by assumption) (Or.inl ⟨by kernel_rfl, ?_⟩) ?_
  rotate_left
  · intro wz hSw; (first | (go_simp; done) | (go_simp; with_reducible rfl))
  (try simp only [Act.put, List.getElem_toArray, List.getElem_cons_zero, List.getElem_cons_succ, List.setIfInBounds_toArray, List.set_cons_zero, List.set_cons_succ])
  refine held_take (fun _ => trivial) (by kernel_rfl) (i := 1) (oi := _) (v := ?_) rfl (by kernel_rfl) (by kernel_rfl) (by kernel_rfl) (fun _ _ _ h => h) (by assumption) (Or.inl ⟨by kernel_rfl, ?_⟩) ?_
  rotate_left
  · intro wz hSw; (first | (go_simp; done) | (go_simp; with_reducible rfl))
  (try simp only [Act.put, List.getElem_toArray, List.getElem_cons_zero, List.getElem_cons_succ, List.setIfInBounds_toArray, List.set_cons_zero, List.set_cons_succ])
  refine held_take (fun _ => trivial) (by kernel_rfl) (i := 2) (oi := _) (v := ?_) rfl (by kernel_rfl) (by kernel_rfl) (by kernel_rfl) (fun _ _ _ h => h) (by assumption) (Or.inl ⟨by kernel_rfl, ?_⟩) ?_
  rotate_left
  · intro wz hSw; (first | (go_simp; done) | (go_simp; with_reducible rfl))
  (try simp only [Act.put, List.getElem_toArray, List.getElem_cons_zero, List.getElem_cons_succ, List.setIfInBounds_toArray, List.set_cons_zero, List.set_cons_succ])
  refine held_take (fun _ => trivial) (by kernel_rfl) (i := 3) (oi := _) (v := .agg #[.int .i64 qh, .int .u64 ql]) rfl (by kernel_rfl) (by kernel_rfl) (by kernel_rfl) (fun _ _ _ h => h) (by assumption) (Or.inl ⟨by kernel_rfl, ?_⟩) ?_
  · intro wz hSw; exact exec_load_row 24 (.tmp 9) (by kernel_rfl) (w1.heap.size) (by kernel_rfl) _ _ _ _ (WideAt.below hSw Rq.out) Try.underlying24 (by kernel_rfl) (by kernel_rfl)
  (try simp only [Act.put, List.getElem_toArray, List.getElem_cons_zero, List.getElem_cons_succ, List.setIfInBounds_toArray, List.set_cons_zero, List.set_cons_succ])
  refine held_take (fun _ => trivial) (by kernel_rfl) (i := 4) (oi := _) (v := .agg #[.int .i64 qh, .int .u64 ql]) rfl (by kernel_rfl) (by kernel_rfl) (by kernel_rfl) (fun _ _ _ h => h) (by assumption) (Or.inl ⟨by kernel_rfl, ?_⟩) ?_
  · intro wz hSw; exact exec_load_row 24 (.tmp 15) (by kernel_rfl) (w5.heap.size) (by kernel_rfl) _ _ _ _ (WideAt.below hSw Rv.out) Try.underlying24 (by kernel_rfl) (by kernel_rfl)
  (try simp only [Act.put, List.getElem_toArray, List.getElem_cons_zero, List.getElem_cons_succ, List.setIfInBounds_toArray, List.set_cons_zero, List.set_cons_succ])
  refine held_take (fun _ => trivial) (by kernel_rfl) (i := 5) (oi := _) (v := ?_) rfl (by kernel_rfl) (by kernel_rfl) (by kernel_rfl) (fun _ _ _ h => h) (by assumption) (Or.inl ⟨by kernel_rfl, ?_⟩) ?_
  rotate_left
  · intro wz hSw; (first | (go_simp; done) | (go_simp; with_reducible rfl))
  (try simp only [Act.put, List.getElem_toArray, List.getElem_cons_zero, List.getElem_cons_succ, List.setIfInBounds_toArray, List.set_cons_zero, List.set_cons_succ])
  refine held_take (fun _ => trivial) (by kernel_rfl) (i := 6) (oi := _) (v := ?_) rfl (by kernel_rfl) (by kernel_rfl) (by kernel_rfl) (fun _ _ _ h => h) (by assumption) (Or.inl ⟨by kernel_rfl, ?_⟩) ?_
  rotate_left
  · intro wz hSw; (first | (go_simp; done) | (go_simp; with_reducible rfl))
  (try simp only [Act.put, List.getElem_toArray, List.getElem_cons_zero, List.getElem_cons_succ, List.setIfInBounds_toArray, List.set_cons_zero, List.set_cons_succ])
  refine held_take (fun _ => trivial) (by kernel_rfl) (i := 7) (oi := _) (v := ?_) rfl (by kernel_rfl) (by kernel_rfl) (by kernel_rfl) (fun _ _ _ h => h) (by assumption) (Or.inl ⟨by kernel_rfl, ?_⟩) ?_
  rotate_left
  · intro wz hSw; (first | (go_simp; done) | (go_simp; with_reducible rfl))
  (try simp only [Act.put, List.getElem_toArray, List.getElem_cons_zero, List.getElem_cons_succ, List.setIfInBounds_toArray, List.set_cons_zero, List.set_cons_succ])
  refine held_take (fun _ => trivial) (by kernel_rfl) (i := 8) (oi := _) (v := ?_) rfl (by kernel_rfl) (by kernel_rfl) (by kernel_rfl) (fun _ _ _ h => h) (by assumption) (Or.inl ⟨by kernel_rfl, ?_⟩) ?_
  rotate_left
  · intro wz hSw; (first | (go_simp; done) | (go_simp; with_reducible rfl))
  (try simp only [Act.put, List.getElem_toArray, List.getElem_cons_zero, List.getElem_cons_succ, List.setIfInBounds_toArray, List.set_cons_zero, List.set_cons_succ])
  refine held_take (fun _ => trivial) (by kernel_rfl) (i := 10) (oi := _) (v := .agg (bv S)) rfl (by kernel_rfl) (by kernel_rfl) (by kernel_rfl) (fun _ _ _ h => h) (by assumption) (Or.inl ⟨by kernel_rfl, ?_⟩) ?_
  · intro wz hSw; exact exec_load_row 27 (.tmp 13) (by kernel_rfl) (w4.heap.size + 1) (by kernel_rfl) _ _ _ _ (BigAt.below hSw Rs.out) Try.underlying27 (by kernel_rfl) (bv_info _)
  (try simp only [Act.put, List.getElem_toArray, List.getElem_cons_zero, List.getElem_cons_succ, List.setIfInBounds_toArray, List.set_cons_zero, List.set_cons_succ])
  refine held_step (fun _ => trivial) (i := 9) (o := _) (by kernel_rfl) rfl (fun K hK => ?_)
  go_simp
  refine ⟨trivial, callsIn_wide.2 ((cOr.out _).mono ?_)⟩
  rintro e y1 ⟨rfl, hb1⟩
  dsimp only
  refine hK.out _ _ (bnext hHeld hb1) (fun hHeld => ?_)
  clear hK K
  (try simp only [Act.put, List.getElem_toArray, List.getElem_cons_zero, List.getElem_cons_succ, List.setIfInBounds_toArray, List.set_cons_zero, List.set_cons_succ])
  refine held_take (fun _ => trivial) (by kernel_rfl) (i := 11) (oi := _) (v := ?_) rfl (by kernel_rfl) (by kernel_rfl) (by kernel_rfl) (fun _ _ _ h => h) (by assumption) (Or.inl ⟨by kernel_rfl, ?_⟩) ?_
  rotate_left
  · intro wz hSw; (first | (go_simp; done) | (go_simp; with_reducible rfl))
  (try simp only [Act.put, List.getElem_toArray, List.getElem_cons_zero, List.getElem_cons_succ, List.setIfInBounds_toArray, List.set_cons_zero, List.set_cons_succ])
  refine held_take (fun _ => trivial) (by kernel_rfl) (i := 12) (oi := _) (v := ?_) rfl (by kernel_rfl) (by kernel_rfl) (by kernel_rfl) (fun _ _ _ h => h) (by assumption) (Or.inl ⟨by kernel_rfl, ?_⟩) ?_
  rotate_left
  · intro wz hSw; (first | (go_simp; done) | (go_simp; with_reducible rfl))
  (try simp only [Act.put, List.getElem_toArray, List.getElem_cons_zero, List.getElem_cons_succ, List.setIfInBounds_toArray, List.set_cons_zero, List.set_cons_succ])
  refine held_done (by kernel_rfl) ?_ _
  refine hK10 _ _ ?_
  have HBn : Hid (Below w.heap.size w y1) := Lib.hid (bnext HB.out hHeld)
  clear HB
  have HB := HBn
  clear HBn
  replace Rx : Hid (WideAt (w.heap.size) xh xl y1) := Lib.hid (WideAt.below hHeld Rx.out)
  replace Rq : Hid (WideAt (w1.heap.size) qh ql y1) := Lib.hid (WideAt.below hHeld Rq.out)
  replace Rp : Hid (BigAt (w4.heap.size) P y1) := Lib.hid (BigAt.below hHeld Rp.out)
  replace Rs : Hid (BigAt (w4.heap.size + 1) S y1) := Lib.hid (BigAt.below hHeld Rs.out)
  replace Rv : Hid (WideAt (w5.heap.size) qh ql y1) := Lib.hid (WideAt.below hHeld Rv.out)
  clear hHeld hb1 hK10 K10 hnb
  go_wp2_with fail
  refine (cOa.out _).mono ?_
  rintro e w7a ⟨rfl, hbn⟩
  have Bn := bnext HB.out hbn
  have HBn : Hid (Below w.heap.size w w7a) := Lib.hid (Bn)
  clear HB
  have HB := HBn
  clear HBn
  replace Rx : Hid (WideAt (w.heap.size) xh xl w7a) := Lib.hid (WideAt.below hbn Rx.out)
  replace Rq : Hid (WideAt (w1.heap.size) qh ql w7a) := Lib.hid (WideAt.below hbn Rq.out)
  replace Rp : Hid (BigAt (w4.heap.size) P w7a) := Lib.hid (BigAt.below hbn Rp.out)
  replace Rs : Hid (BigAt (w4.heap.size + 1) S w7a) := Lib.hid (BigAt.below hbn Rs.out)
  replace Rv : Hid (WideAt (w5.heap.size) qh ql w7a) := Lib.hid (WideAt.below hbn Rv.out)
  clear hbn Bn
  go_wp2_with fail
  refine (cOb.out _).mono ?_
  rintro e w7b ⟨rfl, hbn⟩
  have Bn := bnext HB.out hbn
  have HBn : Hid (Below w.heap.size w w7b) := Lib.hid (Bn)
  clear HB
  have HB := HBn
  clear HBn
  replace Rx : Hid (WideAt (w.heap.size) xh xl w7b) := Lib.hid (WideAt.below hbn Rx.out)
  replace Rq : Hid (WideAt (w1.heap.size) qh ql w7b) := Lib.hid (WideAt.below hbn Rq.out)
  replace Rp : Hid (BigAt (w4.heap.size) P w7b) := Lib.hid (BigAt.below hbn Rp.out)
  replace Rs : Hid (BigAt (w4.heap.size + 1) S w7b) := Lib.hid (BigAt.below hbn Rs.out)
  replace Rv : Hid (WideAt (w5.heap.size) qh ql w7b) := Lib.hid (WideAt.below hbn Rv.out)
  clear hbn Bn
  go_wp2_with fail
  refine (cMu.out _).mono ?_
  rintro e w7c ⟨rfl, hbn⟩
  have Bn := bnext HB.out hbn
  have HBn : Hid (Below w.heap.size w w7c) := Lib.hid (Bn)
  clear HB
  have HB := HBn
  clear HBn
  replace Rx : Hid (WideAt (w.heap.size) xh xl w7c) := Lib.hid (WideAt.below hbn Rx.out)
  replace Rq : Hid (WideAt (w1.heap.size) qh ql w7c) := Lib.hid (WideAt.below hbn Rq.out)
  replace Rp : Hid (BigAt (w4.heap.size) P w7c) := Lib.hid (BigAt.below hbn Rp.out)
  replace Rs : Hid (BigAt (w4.heap.size + 1) S w7c) := Lib.hid (BigAt.below hbn Rs.out)
  replace Rv : Hid (WideAt (w5.heap.size) qh ql w7c) := Lib.hid (WideAt.below hbn Rv.out)
  clear hbn Bn
  go_wp2_with fail
  refine (cOc.out _).mono ?_
  rintro e w7d ⟨rfl, hbn⟩
  have Bn := bnext HB.out hbn
  have HBn : Hid (Below w.heap.size w w7d) := Lib.hid (Bn)
  clear HB
  have HB := HBn
  clear HBn
  replace Rx : Hid (WideAt (w.heap.size) xh xl w7d) := Lib.hid (WideAt.below hbn Rx.out)
  replace Rq : Hid (WideAt (w1.heap.size) qh ql w7d) := Lib.hid (WideAt.below hbn Rq.out)
  replace Rp : Hid (BigAt (w4.heap.size) P w7d) := Lib.hid (BigAt.below hbn Rp.out)
  replace Rs : Hid (BigAt (w4.heap.size + 1) S w7d) := Lib.hid (BigAt.below hbn Rs.out)
  replace Rv : Hid (WideAt (w5.heap.size) qh ql w7d) := Lib.hid (WideAt.below hbn Rv.out)
  clear hbn Bn
  go_wp2_with fail
  refine (cD2.out _).mono ?_
  rintro e w7e ⟨rfl, hbn⟩
  have Bn := bnext HB.out hbn
  have Z1 : Hid (BigAt (w7e.heap.size) 0 ((w7e.alloc (.cells #[.bool false, .int .u64 0, .int .u64 0, .int .u64 0, .int .u64 0, .int .u64 0, .int .u64 0, .int .u64 0, .int .u64 0, .int .u64 0, .int .u64 0, .int .u64 0, .int .u64 0, .int .u64 0, .int .u64 0, .int .u64 0, .int .u64 0, .int .u64 0, .int .u64 0, .int .u64 0, .int .u64 0] 27)).alloc (.cells #[.bool false, .int .u64 0, .int .u64 0, .int .u64 0, .int .u64 0, .int .u64 0, .int .u64 0, .int .u64 0, .int .u64 0, .int .u64 0, .int .u64 0, .int .u64 0, .int .u64 0, .int .u64 0, .int .u64 0, .int .u64 0, .int .u64 0, .int .u64 0, .int .u64 0, .int .u64 0, .int .u64 0] 27))) := Lib.hid (step_row (heap_alloc_new _ _))
  have Z2 : Hid (BigAt (w7e.heap.size + 1) 0 (((w7e.alloc (.cells #[.bool false, .int .u64 0, .int .u64 0, .int .u64 0, .int .u64 0, .int .u64 0, .int .u64 0, .int .u64 0, .int .u64 0, .int .u64 0, .int .u64 0, .int .u64 0, .int .u64 0, .int .u64 0, .int .u64 0, .int .u64 0, .int .u64 0, .int .u64 0, .int .u64 0, .int .u64 0, .int .u64 0] 27)).alloc (.cells #[.bool false, .int .u64 0, .int .u64 0, .int .u64 0, .int .u64 0, .int .u64 0, .int .u64 0, .int .u64 0, .int .u64 0, .int .u64 0, .int .u64 0, .int .u64 0, .int .u64 0, .int .u64 0, .int .u64 0, .int .u64 0, .int .u64 0, .int .u64 0, .int .u64 0, .int .u64 0, .int .u64 0] 27)).setRow (w7e.heap.size) (bv M))) := Lib.hid (BigAt.other (k := w7e.heap.size) (show BigAt (w7e.heap.size + 1) 0 ((w7e.alloc (.cells #[.bool false, .int .u64 0, .int .u64 0, .int .u64 0, .int .u64 0, .int .u64 0, .int .u64 0, .int .u64 0, .int .u64 0, .int .u64 0, .int .u64 0, .int .u64 0, .int .u64 0, .int .u64 0, .int .u64 0, .int .u64 0, .int .u64 0, .int .u64 0, .int .u64 0, .int .u64 0, .int .u64 0] 27)).alloc (.cells #[.bool false, .int .u64 0, .int .u64 0, .int .u64 0, .int .u64 0, .int .u64 0, .int .u64 0, .int .u64 0, .int .u64 0, .int .u64 0, .int .u64 0, .int .u64 0, .int .u64 0, .int .u64 0, .int .u64 0, .int .u64 0, .int .u64 0, .int .u64 0, .int .u64 0, .int .u64 0, .int .u64 0] 27)) from heap_alloc2_new _ _ _) (by omega) _)
  have Bz : Below w7e.heap.size w7e ((((w7e.alloc (.cells #[.bool false, .int .u64 0, .int .u64 0, .int .u64 0, .int .u64 0, .int .u64 0, .int .u64 0, .int .u64 0, .int .u64 0, .int .u64 0, .int .u64 0, .int .u64 0, .int .u64 0, .int .u64 0, .int .u64 0, .int .u64 0, .int .u64 0, .int .u64 0, .int .u64 0, .int .u64 0, .int .u64 0] 27)).alloc (.cells #[.bool false, .int .u64 0, .int .u64 0, .int .u64 0, .int .u64 0, .int .u64 0, .int .u64 0, .int .u64 0, .int .u64 0, .int .u64 0, .int .u64 0, .int .u64 0, .int .u64 0, .int .u64 0, .int .u64 0, .int .u64 0, .int .u64 0, .int .u64 0, .int .u64 0, .int .u64 0, .int .u64 0] 27)).setRow (w7e.heap.size) (bv M)).setRow (w7e.heap.size + 1) (bv N)) := Below.row (Below.row (by go_grown) (Nat.le_refl _) _) (by omega) _
  have HBn : Hid (Below w.heap.size w ((((w7e.alloc (.cells #[.bool false, .int .u64 0, .int .u64 0, .int .u64 0, .int .u64 0, .int .u64 0, .int .u64 0, .int .u64 0, .int .u64 0, .int .u64 0, .int .u64 0, .int .u64 0, .int .u64 0, .int .u64 0, .int .u64 0, .int .u64 0, .int .u64 0, .int .u64 0, .int .u64 0, .int .u64 0, .int .u64 0] 27)).alloc (.cells #[.bool false, .int .u64 0, .int .u64 0, .int .u64 0, .int .u64 0, .int .u64 0, .int .u64 0, .int .u64 0, .int .u64 0, .int .u64 0, .int .u64 0, .int .u64 0, .int .u64 0, .int .u64 0, .int .u64 0, .int .u64 0, .int .u64 0, .int .u64 0, .int .u64 0, .int .u64 0, .int .u64 0] 27)).setRow (w7e.heap.size) (bv M)).setRow (w7e.heap.size + 1) (bv N))) := Lib.hid (bnext Bn Bz)
  clear HB
  have HB := HBn
  clear HBn
  replace Rx : Hid (WideAt (w.heap.size) xh xl ((((w7e.alloc (.cells #[.bool false, .int .u64 0, .int .u64 0, .int .u64 0, .int .u64 0, .int .u64 0, .int .u64 0, .int .u64 0, .int .u64 0, .int .u64 0, .int .u64 0, .int .u64 0, .int .u64 0, .int .u64 0, .int .u64 0, .int .u64 0, .int .u64 0, .int .u64 0, .int .u64 0, .int .u64 0, .int .u64 0] 27)).alloc (.cells #[.bool false, .int .u64 0, .int .u64 0, .int .u64 0, .int .u64 0, .int .u64 0, .int .u64 0, .int .u64 0, .int .u64 0, .int .u64 0, .int .u64 0, .int .u64 0, .int .u64 0, .int .u64 0, .int .u64 0, .int .u64 0, .int .u64 0, .int .u64 0, .int .u64 0, .int .u64 0, .int .u64 0] 27)).setRow (w7e.heap.size) (bv M)).setRow (w7e.heap.size + 1) (bv N))) := Lib.hid (WideAt.below Bz (WideAt.below hbn Rx.out))
  replace Rq : Hid (WideAt (w1.heap.size) qh ql ((((w7e.alloc (.cells #[.bool false, .int .u64 0, .int .u64 0, .int .u64 0, .int .u64 0, .int .u64 0, .int .u64 0, .int .u64 0, .int .u64 0, .int .u64 0, .int .u64 0, .int .u64 0, .int .u64 0, .int .u64 0, .int .u64 0, .int .u64 0, .int .u64 0, .int .u64 0, .int .u64 0, .int .u64 0, .int .u64 0] 27)).alloc (.cells #[.bool false, .int .u64 0, .int .u64 0, .int .u64 0, .int .u64 0, .int .u64 0, .int .u64 0, .int .u64 0, .int .u64 0, .int .u64 0, .int .u64 0, .int .u64 0, .int .u64 0, .int .u64 0, .int .u64 0, .int .u64 0, .int .u64 0, .int .u64 0, .int .u64 0, .int .u64 0, .int .u64 0] 27)).setRow (w7e.heap.size) (bv M)).setRow (w7e.heap.size + 1) (bv N))) := Lib.hid (WideAt.below Bz (WideAt.below hbn Rq.out))
  replace Rp : Hid (BigAt (w4.heap.size) P ((((w7e.alloc (.cells #[.bool false, .int .u64 0, .int .u64 0, .int .u64 0, .int .u64 0, .int .u64 0, .int .u64 0, .int .u64 0, .int .u64 0, .int .u64 0, .int .u64 0, .int .u64 0, .int .u64 0, .int .u64 0, .int .u64 0, .int .u64 0, .int .u64 0, .int .u64 0, .int .u64 0, .int .u64 0, .int .u64 0] 27)).alloc (.cells #[.bool false, .int .u64 0, .int .u64 0, .int .u64 0, .int .u64 0, .int .u64 0, .int .u64 0, .int .u64 0, .int .u64 0, .int .u64 0, .int .u64 0, .int .u64 0, .int .u64 0, .int .u64 0, .int .u64 0, .int .u64 0, .int .u64 0, .int .u64 0, .int .u64 0, .int .u64 0, .int .u64 0] 27)).setRow (w7e.heap.size) (bv M)).setRow (w7e.heap.size + 1) (bv N))) := Lib.hid (BigAt.below Bz (BigAt.below hbn Rp.out))
  replace Rs : Hid (BigAt (w4.heap.size + 1) S ((((w7e.alloc (.cells #[.bool false, .int .u64 0, .int .u64 0, .int .u64 0, .int .u64 0, .int .u64 0, .int .u64 0, .int .u64 0, .int .u64 0, .int .u64 0, .int .u64 0, .int .u64 0, .int .u64 0, .int .u64 0, .int .u64 0, .int .u64 0, .int .u64 0, .int .u64 0, .int .u64 0, .int .u64 0, .int .u64 0] 27)).alloc (.cells #[.bool false, .int .u64 0, .int .u64 0, .int .u64 0, .int .u64 0, .int .u64 0, .int .u64 0, .int .u64 0, .int .u64 0, .int .u64 0, .int .u64 0, .int .u64 0, .int .u64 0, .int .u64 0, .int .u64 0, .int .u64 0, .int .u64 0, .int .u64 0, .int .u64 0, .int .u64 0, .int .u64 0] 27)).setRow (w7e.heap.size) (bv M)).setRow (w7e.heap.size + 1) (bv N))) := Lib.hid (BigAt.below Bz (BigAt.below hbn Rs.out))
  replace Rv : Hid (WideAt (w5.heap.size) qh ql ((((w7e.alloc (.cells #[.bool false, .int .u64 0, .int .u64 0, .int .u64 0, .int .u64 0, .int .u64 0, .int .u64 0, .int .u64 0, .int .u64 0, .int .u64 0, .int .u64 0, .int .u64 0, .int .u64 0, .int .u64 0, .int .u64 0, .int .u64 0, .int .u64 0, .int .u64 0, .int .u64 0, .int .u64 0, .int .u64 0] 27)).alloc (.cells #[.bool false, .int .u64 0, .int .u64 0, .int .u64 0, .int .u64 0, .int .u64 0, .int .u64 0, .int .u64 0, .int .u64 0, .int .u64 0, .int .u64 0, .int .u64 0, .int .u64 0, .int .u64 0, .int .u64 0, .int .u64 0, .int .u64 0, .int .u64 0, .int .u64 0, .int .u64 0, .int .u64 0] 27)).setRow (w7e.heap.size) (bv M)).setRow (w7e.heap.size + 1) (bv N))) := Lib.hid (WideAt.below Bz (WideAt.below hbn Rv.out))
  have Rm : Hid (BigAt (w7e.heap.size) M ((((w7e.alloc (.cells #[.bool false, .int .u64 0, .int .u64 0, .int .u64 0, .int .u64 0, .int .u64 0, .int .u64 0, .int .u64 0, .int .u64 0, .int .u64 0, .int .u64 0, .int .u64 0, .int .u64 0, .int .u64 0, .int .u64 0, .int .u64 0, .int .u64 0, .int .u64 0, .int .u64 0, .int .u64 0, .int .u64 0] 27)).alloc (.cells #[.bool false, .int .u64 0, .int .u64 0, .int .u64 0, .int .u64 0, .int .u64 0, .int .u64 0, .int .u64 0, .int .u64 0, .int .u64 0, .int .u64 0, .int .u64 0, .int .u64 0, .int .u64 0, .int .u64 0, .int .u64 0, .int .u64 0, .int .u64 0, .int .u64 0, .int .u64 0, .int .u64 0] 27)).setRow (w7e.heap.size) (bv M)).setRow (w7e.heap.size + 1) (bv N))) := Lib.hid (BigAt.other (k := w7e.heap.size + 1) (BigAt.row Z1.out M) (by omega) _)
  have Rn : Hid (BigAt (w7e.heap.size + 1) N ((((w7e.alloc (.cells #[.bool false, .int .u64 0, .int .u64 0, .int .u64 0, .int .u64 0, .int .u64 0, .int .u64 0, .int .u64 0, .int .u64 0, .int .u64 0, .int .u64 0, .int .u64 0, .int .u64 0, .int .u64 0, .int .u64 0, .int .u64 0, .int .u64 0, .int .u64 0, .int .u64 0, .int .u64 0, .int .u64 0] 27)).alloc (.cells #[.bool false, .int .u64 0, .int .u64 0, .int .u64 0, .int .u64 0, .int .u64 0, .int .u64 0, .int .u64 0, .int .u64 0, .int .u64 0, .int .u64 0, .int .u64 0, .int .u64 0, .int .u64 0, .int .u64 0, .int .u64 0, .int .u64 0, .int .u64 0, .int .u64 0, .int .u64 0, .int .u64 0] 27)).setRow (w7e.heap.size) (bv M)).setRow (w7e.heap.size + 1) (bv N))) := Lib.hid (BigAt.row Z2.out N)
  clear hbn Bn Bz
  go_wp2_with (first | (refine wpList_store_big rfl 27 (.tmp 19) (.tmp 101) rfl (w7e.heap.size) _ _ (bv M) rfl rfl Z1.out (bv_info _) (bv_same _ _) (bv_one _) ?_) | (refine wpList_store_big rfl 27 (.tmp 20) (.tmp 102) rfl (w7e.heap.size + 1) _ _ (bv N) rfl rfl Z2.out (bv_info _) (bv_same _ _) (bv_one _) ?_))
  generalize ((((w7e.alloc (.cells #[.bool false, .int .u64 0, .int .u64 0, .int .u64 0, .int .u64 0, .int .u64 0, .int .u64 0, .int .u64 0, .int .u64 0, .int .u64 0, .int .u64 0, .int .u64 0, .int .u64 0, .int .u64 0, .int .u64 0, .int .u64 0, .int .u64 0, .int .u64 0, .int .u64 0, .int .u64 0, .int .u64 0] 27)).alloc (.cells #[.bool false, .int .u64 0, .int .u64 0, .int .u64 0, .int .u64 0, .int .u64 0, .int .u64 0, .int .u64 0, .int .u64 0, .int .u64 0, .int .u64 0, .int .u64 0, .int .u64 0, .int .u64 0, .int .u64 0, .int .u64 0, .int .u64 0, .int .u64 0, .int .u64 0, .int .u64 0, .int .u64 0] 27)).setRow (w7e.heap.size) (bv M)).setRow (w7e.heap.size + 1) (bv N)) = V at Rx Rq Rp Rs Rv Rm Rn HB ⊢
  clear Z1 Z2
  rename_i K13 hK13
  refine (wpIn_wide (n := 5)).1 (held_region (F := Fence.wide) (S := fun X => Below V.heap.size V X) (by kernel_rfl) (bdrew0 _ _ 1) (fun hHeld => ?_))
  refine held_take (fun _ => trivial) (by kernel_rfl) (i := 0) (oi := _) (v := .agg (bv M)) rfl (by kernel_rfl) (by kernel_rfl) (by kernel_rfl) (fun _ _ _ h => h) (by assumption) (Or.inl ⟨by kernel_rfl, ?_⟩) ?_
  · intro wz hSw; exact exec_load_row 27 (.tmp 19) (by kernel_rfl) (w7e.heap.size) (by kernel_rfl) _ _ _ _ (BigAt.below hSw Rm.out) Try.underlying27 (by kernel_rfl) (bv_info _)
  (try simp only [Act.put, List.getElem_toArray, List.getElem_cons_zero, List.getElem_cons_succ, List.setIfInBounds_toArray, List.set_cons_zero, List.set_cons_succ])
  refine held_step (fun _ => trivial) (i := 1) (o := _) (by kernel_rfl) rfl (fun K hK => ?_)
  go_simp
  refine ⟨trivial, callsIn_wide.2 ((cTw.out _).mono ?_)⟩
  rintro e x1 ⟨rfl, hb1⟩
  dsimp only
  refine hK.out _ _ (bnext hHeld hb1) (fun hHeld => ?_)
  clear hK K
  (try simp only [Act.put, List.getElem_toArray, List.getElem_cons_zero, List.getElem_cons_succ, List.setIfInBounds_toArray, List.set_cons_zero, List.set_cons_succ])
  refine held_step (fun _ => trivial) (i := 2) (o := _) (by kernel_rfl) rfl (fun K hK => ?_)
  go_simp
  refine ⟨trivial, callsIn_wide.2 ((cNt.out _).mono ?_)⟩
  rintro e x2 ⟨rfl, hb2⟩
  dsimp only
  refine hK.out _ _ (bnext hHeld hb2) (fun hHeld => ?_)
  clear hK K
  (try simp only [Act.put, List.getElem_toArray, List.getElem_cons_zero, List.getElem_cons_succ, List.setIfInBounds_toArray, List.set_cons_zero, List.set_cons_succ])
  refine held_step (fun _ => trivial) (i := 3) (o := _) (by kernel_rfl) rfl (fun K hK => ?_)
  go_simp
  refine ⟨trivial, callsIn_wide.2 ((cL3.out _).mono ?_)⟩
  rintro e x3 ⟨rfl, hb3⟩
  dsimp only
  refine hK.out _ _ (bnext hHeld hb3) (fun hHeld => ?_)
  clear hK K
  (try simp only [Act.put, List.getElem_toArray, List.getElem_cons_zero, List.getElem_cons_succ, List.setIfInBounds_toArray, List.set_cons_zero, List.set_cons_succ])
  refine held_take (fun _ => trivial) (by kernel_rfl) (i := 4) (oi := _) (v := ?_) rfl (by kernel_rfl) (by kernel_rfl) (by kernel_rfl) (fun _ _ _ h => h) (by assumption) (Or.inl ⟨by kernel_rfl, ?_⟩) ?_
  rotate_left
  · intro wz hSw; (first | (go_simp; done) | (go_simp; with_reducible rfl))
  (try simp only [Act.put, List.getElem_toArray, List.getElem_cons_zero, List.getElem_cons_succ, List.setIfInBounds_toArray, List.set_cons_zero, List.set_cons_succ])
  refine held_take (fun _ => trivial) (by kernel_rfl) (i := 5) (oi := _) (v := ?_) rfl (by kernel_rfl) (by kernel_rfl) (by kernel_rfl) (fun _ _ _ h => h) (by assumption) (Or.inl ⟨by kernel_rfl, ?_⟩) ?_
  rotate_left
  · intro wz hSw; (first | (go_simp; done) | (go_simp; with_reducible rfl))
  (try simp only [Act.put, List.getElem_toArray, List.getElem_cons_zero, List.getElem_cons_succ, List.setIfInBounds_toArray, List.set_cons_zero, List.set_cons_succ])
  refine held_take (fun _ => trivial) (by kernel_rfl) (i := 6) (oi := _) (v := undef) rfl (by kernel_rfl) (by kernel_rfl) (by kernel_rfl) (fun _ _ _ h => h) (by assumption) (Or.inr ⟨by kernel_rfl, rfl⟩) ?_
  (try simp only [Act.put, List.getElem_toArray, List.getElem_cons_zero, List.getElem_cons_succ, List.setIfInBounds_toArray, List.set_cons_zero, List.set_cons_succ])
  refine held_step (fun _ => trivial) (i := 7) (o := _) (by kernel_rfl) rfl (fun K hK => ?_)
  go_simp
  refine hK.out _ _ (hHeld) (fun hHeld => ?_)
  clear hK K
  (try simp only [Act.put, List.getElem_toArray, List.getElem_cons_zero, List.getElem_cons_succ, List.setIfInBounds_toArray, List.set_cons_zero, List.set_cons_succ])
  refine held_step (fun _ => trivial) (i := 8) (o := _) (by kernel_rfl) rfl (fun K hK => ?_)
  go_simp
  refine hK.out _ _ (hHeld) (fun hHeld => ?_)
  clear hK K
  (try simp only [Act.put, List.getElem_toArray, List.getElem_cons_zero, List.getElem_cons_succ, List.setIfInBounds_toArray, List.set_cons_zero, List.set_cons_succ])
  refine held_take (fun _ => trivial) (by kernel_rfl) (i := 9) (oi := _) (v := ?_) rfl (by kernel_rfl) (by kernel_rfl) (by kernel_rfl) (fun _ _ _ h => h) (by assumption) (Or.inl ⟨by kernel_rfl, ?_⟩) ?_
  rotate_left
  · intro wz hSw; (first | (go_simp; done) | (go_simp; with_reducible rfl))
  (try simp only [Act.put, List.getElem_toArray, List.getElem_cons_zero, List.getElem_cons_succ, List.setIfInBounds_toArray, List.set_cons_zero, List.set_cons_succ])
  refine held_take (fun _ => trivial) (by kernel_rfl) (i := 10) (oi := _) (v := ?_) rfl (by kernel_rfl) (by kernel_rfl) (by kernel_rfl) (fun _ _ _ h => h) (by assumption) (Or.inl ⟨by kernel_rfl, ?_⟩) ?_
  rotate_left
  · intro wz hSw; (first | (go_simp; done) | (go_simp; with_reducible rfl))
  (try simp only [Act.put, List.getElem_toArray, List.getElem_cons_zero, List.getElem_cons_succ, List.setIfInBounds_toArray, List.set_cons_zero, List.set_cons_succ])
  refine held_done (by kernel_rfl) ?_ _
  refine hK13 _ _ ?_
  have HBn : Hid (Below w.heap.size w x3) := Lib.hid (bnext HB.out hHeld)
  clear HB
  have HB := HBn
  clear HBn
  replace Rx : Hid (WideAt (w.heap.size) xh xl x3) := Lib.hid (WideAt.below hHeld Rx.out)
  replace Rq : Hid (WideAt (w1.heap.size) qh ql x3) := Lib.hid (WideAt.below hHeld Rq.out)
  replace Rp : Hid (BigAt (w4.heap.size) P x3) := Lib.hid (BigAt.below hHeld Rp.out)
  replace Rs : Hid (BigAt (w4.heap.size + 1) S x3) := Lib.hid (BigAt.below hHeld Rs.out)
  replace Rv : Hid (WideAt (w5.heap.size) qh ql x3) := Lib.hid (WideAt.below hHeld Rv.out)
  replace Rm : Hid (BigAt (w7e.heap.size) M x3) := Lib.hid (BigAt.below hHeld Rm.out)
  replace Rn : Hid (BigAt (w7e.heap.size + 1) N x3) := Lib.hid (BigAt.below hHeld Rn.out)
  clear hK13 hHeld hb1 hb2 hb3
  go_wp2_with fail
  rename_i K14 hK14
  have heb := fun W => eq_big M W
  refine (wpIn_wide (n := 5)).1 (held_region (F := Fence.wide) (S := fun X => Below x3.heap.size x3 X) (by kernel_rfl) (bdrew0 _ _ 1) (fun hHeld => ?_))
  refine held_take (fun _ => trivial) (by kernel_rfl) (i := 0) (oi := _) (v := ?_) rfl (by kernel_rfl) (by kernel_rfl) (by kernel_rfl) (fun _ _ _ h => h) (by assumption) (Or.inl ⟨by kernel_rfl, ?_⟩) ?_
  rotate_left
  · intro wz hSw; (first | (go_simp; done) | (go_simp; with_reducible rfl))
  (try simp only [Act.put, List.getElem_toArray, List.getElem_cons_zero, List.getElem_cons_succ, List.setIfInBounds_toArray, List.set_cons_zero, List.set_cons_succ])
  refine held_take (fun _ => trivial) (by kernel_rfl) (i := 1) (oi := _) (v := ?_) rfl (by kernel_rfl) (by kernel_rfl) (by kernel_rfl) (fun _ _ _ h => h) (by assumption) (Or.inl ⟨by kernel_rfl, ?_⟩) ?_
  rotate_left
  · intro wz hSw; (first | (go_simp; done) | (go_simp; with_reducible rfl))
  (try simp only [Act.put, List.getElem_toArray, List.getElem_cons_zero, List.getElem_cons_succ, List.setIfInBounds_toArray, List.set_cons_zero, List.set_cons_succ])
  refine held_take (fun _ => trivial) (by kernel_rfl) (i := 2) (oi := _) (v := undef) rfl (by kernel_rfl) (by kernel_rfl) (by kernel_rfl) (fun _ _ _ h => h) (by assumption) (Or.inr ⟨by kernel_rfl, rfl⟩) ?_
  (try simp only [Act.put, List.getElem_toArray, List.getElem_cons_zero, List.getElem_cons_succ, List.setIfInBounds_toArray, List.set_cons_zero, List.set_cons_succ])
  refine held_take (fun _ => trivial) (by kernel_rfl) (i := 3) (oi := _) (v := undef) rfl (by kernel_rfl) (by kernel_rfl) (by kernel_rfl) (fun _ _ _ h => h) (by assumption) (Or.inr ⟨by kernel_rfl, rfl⟩) ?_
  (try simp only [Act.put, List.getElem_toArray, List.getElem_cons_zero, List.getElem_cons_succ, List.setIfInBounds_toArray, List.set_cons_zero, List.set_cons_succ])
  refine held_take (fun _ => trivial) (by kernel_rfl) (i := 4) (oi := _) (v := ?_) rfl (by kernel_rfl) (by kernel_rfl) (by kernel_rfl) (fun _ _ _ h => h) (by assumption) (Or.inl ⟨by kernel_rfl, ?_⟩) ?_
  rotate_left
  · intro wz hSw; (first | (go_simp; done) | (go_simp; with_reducible rfl))
  (try simp only [Act.put, List.getElem_toArray, List.getElem_cons_zero, List.getElem_cons_succ, List.setIfInBounds_toArray, List.set_cons_zero, List.set_cons_succ])
  refine held_take (fun _ => trivial) (by kernel_rfl) (i := 5) (oi := _) (v := ?_) rfl (by kernel_rfl) (by kernel_rfl) (by kernel_rfl) (fun _ _ _ h => h) (by assumption) (Or.inl ⟨by kernel_rfl, ?_⟩) ?_
  rotate_left
  · intro wz hSw; (first | (go_simp; done) | (go_simp; with_reducible rfl))
  (try simp only [Act.put, List.getElem_toArray, List.getElem_cons_zero, List.getElem_cons_succ, List.setIfInBounds_toArray, List.set_cons_zero, List.set_cons_succ])
  refine held_take (fun _ => trivial) (by kernel_rfl) (i := 6) (oi := _) (v := undef) rfl (by kernel_rfl) (by kernel_rfl) (by kernel_rfl) (fun _ _ _ h => h) (by assumption) (Or.inr ⟨by kernel_rfl, rfl⟩) ?_
  (try simp only [Act.put, List.getElem_toArray, List.getElem_cons_zero, List.getElem_cons_succ, List.setIfInBounds_toArray, List.set_cons_zero, List.set_cons_succ])
  refine held_take (fun _ => trivial) (by kernel_rfl) (i := 8) (oi := _) (v := undef) rfl (by kernel_rfl) (by kernel_rfl) (by kernel_rfl) (fun _ _ _ h => h) (by assumption) (Or.inr ⟨by kernel_rfl, rfl⟩) ?_
  (try simp only [Act.put, List.getElem_toArray, List.getElem_cons_zero, List.getElem_cons_succ, List.setIfInBounds_toArray, List.set_cons_zero, List.set_cons_succ])
  refine held_step (fun _ => trivial) (i := 7) (o := _) (by kernel_rfl) rfl (fun K hK => ?_)
  go_simp
  refine hK.out _ _ (hHeld) (fun hHeld => ?_)
  clear hK K
  (try simp only [Act.put, List.getElem_toArray, List.getElem_cons_zero, List.getElem_cons_succ, List.setIfInBounds_toArray, List.set_cons_zero, List.set_cons_succ])
  refine held_take (fun _ => trivial) (by kernel_rfl) (i := 9) (oi := _) (v := undef) rfl (by kernel_rfl) (by kernel_rfl) (by kernel_rfl) (fun _ _ _ h => h) (by assumption) (Or.inr ⟨by kernel_rfl, rfl⟩) ?_
  (try simp only [Act.put, List.getElem_toArray, List.getElem_cons_zero, List.getElem_cons_succ, List.setIfInBounds_toArray, List.set_cons_zero, List.set_cons_succ])
  refine held_take (fun _ => trivial) (by kernel_rfl) (i := 10) (oi := _) (v := ?_) rfl (by kernel_rfl) (by kernel_rfl) (by kernel_rfl) (fun _ _ _ h => h) (by assumption) (Or.inl ⟨by kernel_rfl, ?_⟩) ?_
  rotate_left
  · intro wz hSw; (first | (go_simp; done) | (go_simp; with_reducible rfl))
  (try simp only [Act.put, List.getElem_toArray, List.getElem_cons_zero, List.getElem_cons_succ, List.setIfInBounds_toArray, List.set_cons_zero, List.set_cons_succ])
  refine held_take (fun _ => trivial) (by kernel_rfl) (i := 11) (oi := _) (v := ?_) rfl (by kernel_rfl) (by kernel_rfl) (by kernel_rfl) (fun _ _ _ h => h) (by assumption) (Or.inl ⟨by kernel_rfl, ?_⟩) ?_
  rotate_left
  · intro wz hSw; (first | (go_simp; done) | (go_simp; with_reducible rfl))
  (try simp only [Act.put, List.getElem_toArray, List.getElem_cons_zero, List.getElem_cons_succ, List.setIfInBounds_toArray, List.set_cons_zero, List.set_cons_succ])
  refine held_take (fun _ => trivial) (by kernel_rfl) (i := 12) (oi := _) (v := ?_) rfl (by kernel_rfl) (by kernel_rfl) (by kernel_rfl) (fun _ _ _ h => h) (by assumption) (Or.inl ⟨by kernel_rfl, ?_⟩) ?_
  rotate_left
  · intro wz hSw; (first | (go_simp; done) | (go_simp; with_reducible rfl))
  (try simp only [Act.put, List.getElem_toArray, List.getElem_cons_zero, List.getElem_cons_succ, List.setIfInBounds_toArray, List.set_cons_zero, List.set_cons_succ])
  refine held_take (fun _ => trivial) (by kernel_rfl) (i := 13) (oi := _) (v := ?_) rfl (by kernel_rfl) (by kernel_rfl) (by kernel_rfl) (fun _ _ _ h => h) (by assumption) (Or.inl ⟨by kernel_rfl, ?_⟩) ?_
  rotate_left
  · intro wz hSw; (first | (go_simp; done) | (go_simp; with_reducible rfl))
  (try simp only [Act.put, List.getElem_toArray, List.getElem_cons_zero, List.getElem_cons_succ, List.setIfInBounds_toArray, List.set_cons_zero, List.set_cons_succ])
  refine held_take (fun _ => trivial) (by kernel_rfl) (i := 14) (oi := _) (v := ?_) rfl (by kernel_rfl) (by kernel_rfl) (by kernel_rfl) (fun _ _ _ h => h) (by assumption) (Or.inl ⟨by kernel_rfl, ?_⟩) ?_
  rotate_left
  · intro wz hSw; (first | (go_simp; done) | (go_simp; with_reducible rfl))
  (try simp only [Act.put, List.getElem_toArray, List.getElem_cons_zero, List.getElem_cons_succ, List.setIfInBounds_toArray, List.set_cons_zero, List.set_cons_succ])
  refine held_take (fun _ => trivial) (by kernel_rfl) (i := 15) (oi := _) (v := ?_) rfl (by kernel_rfl) (by kernel_rfl) (by kernel_rfl) (fun _ _ _ h => h) (by assumption) (Or.inl ⟨by kernel_rfl, ?_⟩) ?_
  rotate_left
  · intro wz hSw; (first | (go_simp; done) | (go_simp; with_reducible rfl))
  (try simp only [Act.put, List.getElem_toArray, List.getElem_cons_zero, List.getElem_cons_succ, List.setIfInBounds_toArray, List.set_cons_zero, List.set_cons_succ])
  refine held_take (fun _ => trivial) (by kernel_rfl) (i := 16) (oi := _) (v := ?_) rfl (by kernel_rfl) (by kernel_rfl) (by kernel_rfl) (fun _ _ _ h => h) (by assumption) (Or.inl ⟨by kernel_rfl, ?_⟩) ?_
  rotate_left
  · intro wz hSw; (first | (go_simp; done) | (go_simp; with_reducible rfl))
  (try simp only [Act.put, List.getElem_toArray, List.getElem_cons_zero, List.getElem_cons_succ, List.setIfInBounds_toArray, List.set_cons_zero, List.set_cons_succ])
  refine held_take (fun _ => trivial) (by kernel_rfl) (i := 17) (oi := _) (v := ?_) rfl (by kernel_rfl) (by kernel_rfl) (by kernel_rfl) (fun _ _ _ h => h) (by assumption) (Or.inl ⟨by kernel_rfl, ?_⟩) ?_
  rotate_left
  · intro wz hSw; (first | (go_simp; done) | (go_simp; with_reducible rfl))
  (try simp only [Act.put, List.getElem_toArray, List.getElem_cons_zero, List.getElem_cons_succ, List.setIfInBounds_toArray, List.set_cons_zero, List.set_cons_succ])
  refine held_take (fun _ => trivial) (by kernel_rfl) (i := 18) (oi := _) (v := ?_) rfl (by kernel_rfl) (by kernel_rfl) (by kernel_rfl) (fun _ _ _ h => h) (by assumption) (Or.inl ⟨by kernel_rfl, ?_⟩) ?_
  rotate_left
  · intro wz hSw; (first | (go_simp; done) | (go_simp; with_reducible rfl))
  (try simp only [Act.put, List.getElem_toArray, List.getElem_cons_zero, List.getElem_cons_succ, List.setIfInBounds_toArray, List.set_cons_zero, List.set_cons_succ])
  refine held_take (fun _ => trivial) (by kernel_rfl) (i := 19) (oi := _) (v := ?_) rfl (by kernel_rfl) (by kernel_rfl) (by kernel_rfl) (fun _ _ _ h => h) (by assumption) (Or.inl ⟨by kernel_rfl, ?_⟩) ?_
  rotate_left
  · intro wz hSw; (first | (go_simp; done) | (go_simp; with_reducible rfl))
  (try simp only [Act.put, List.getElem_toArray, List.getElem_cons_zero, List.getElem_cons_succ, List.setIfInBounds_toArray, List.set_cons_zero, List.set_cons_succ])
  refine held_take (fun _ => trivial) (by kernel_rfl) (i := 20) (oi := _) (v := ?_) rfl (by kernel_rfl) (by kernel_rfl) (by kernel_rfl) (fun _ _ _ h => h) (by assumption) (Or.inl ⟨by kernel_rfl, ?_⟩) ?_
  rotate_left
  · intro wz hSw; (first | (go_simp; done) | (go_simp; with_reducible rfl))
  (try simp only [Act.put, List.getElem_toArray, List.getElem_cons_zero, List.getElem_cons_succ, List.setIfInBounds_toArray, List.set_cons_zero, List.set_cons_succ])
  refine held_take (fun _ => trivial) (by kernel_rfl) (i := 21) (oi := _) (v := ?_) rfl (by kernel_rfl) (by kernel_rfl) (by kernel_rfl) (fun _ _ _ h => h) (by assumption) (Or.inl ⟨by kernel_rfl, ?_⟩) ?_
  rotate_left
  · intro wz hSw; (first | (go_simp; done) | (go_simp; with_reducible rfl))
  (try simp only [Act.put, List.getElem_toArray, List.getElem_cons_zero, List.getElem_cons_succ, List.setIfInBounds_toArray, List.set_cons_zero, List.set_cons_succ])
  refine held_take (fun _ => trivial) (by kernel_rfl) (i := 22) (oi := _) (v := ?_) rfl (by kernel_rfl) (by kernel_rfl) (by kernel_rfl) (fun _ _ _ h => h) (by assumption) (Or.inl ⟨by kernel_rfl, ?_⟩) ?_
  rotate_left
  · intro wz hSw; (first | (go_simp; done) | (go_simp; with_reducible rfl))
  (try simp only [Act.put, List.getElem_toArray, List.getElem_cons_zero, List.getElem_cons_succ, List.setIfInBounds_toArray, List.set_cons_zero, List.set_cons_succ])
  refine held_take (fun _ => trivial) (by kernel_rfl) (i := 23) (oi := _) (v := ?_) rfl (by kernel_rfl) (by kernel_rfl) (by kernel_rfl) (fun _ _ _ h => h) (by assumption) (Or.inl ⟨by kernel_rfl, ?_⟩) ?_
  rotate_left
  · intro wz hSw; (first | (go_simp; done) | (go_simp; with_reducible rfl))
  (try simp only [Act.put, List.getElem_toArray, List.getElem_cons_zero, List.getElem_cons_succ, List.setIfInBounds_toArray, List.set_cons_zero, List.set_cons_succ])
  refine held_done (by kernel_rfl) ?_ _
  refine hK14 _ _ ?_
  have HE := Lib.hid (bnext HB.out hHeld)
  clear hHeld
  go_wp2_with fail
  go_ret
  exact ⟨rfl, HE.out⟩
set_option maxRecDepth 100000 in
set_option maxHeartbeats 4000000 in
theorem divides_small_no (a b c X P S PR M N t nt xh qh : Int) (xl ql : Nat) (w : World)
    (cWD : Hid (Ans 25 #[.agg #[.int .i64 xh, .int .u64 xl], .int .i64 c] (.tuple #[.agg #[.int .i64 qh, .int .u64 ql], .int .i64 0, .int .i64 20])))
    (cF : Hid (Ans 9 #[.agg #[.int .i64 xh, .int .u64 xl]] (.agg (bv X))))
    (cOc : Hid (Ans 12 #[.int .i64 c] (.agg (bv c))))
    (cD : Hid (Ans 26 #[.agg (bv X), .agg (bv c)] (.tuple #[.agg (bv P), .agg (bv S), .int .i64 0])))
    (cC : Hid (Ans 14 #[.agg (bv P)] (.tuple #[.agg #[.int .i64 qh, .int .u64 ql], .int .i64 20])))
    (cWM : Hid (Ans 27 #[.int .i64 a, .int .i64 b, .int .i64 c] (.tuple #[.int .i64 0, .int .i64 20])))
    (cOa : Hid (Ans 12 #[.int .i64 a] (.agg (bv a))))
    (cOb : Hid (Ans 12 #[.int .i64 b] (.agg (bv b))))
    (cMu : Hid (Ans 11 #[.agg (bv a), .agg (bv b)] (.agg (bv PR))))
    (cD2 : Hid (Ans 26 #[.agg (bv PR), .agg (bv c)] (.tuple #[.agg (bv M), .agg (bv N), .int .i64 0])))
    (cTw : Hid (Ans 20 #[.int .i64 63] (.agg (bv t))))
    (cNt : Hid (Ans 17 #[.agg (bv t)] (.agg (bv nt))))
    (cL3 : Hid (Ans 18 #[.agg (bv M), .agg (bv nt)] (.bool true)))
    : Calls Try.prog 4 #[.agg #[.int .i64 xh, .int .u64 xl], .int .i64 a, .int .i64 b, .int .i64 c] w fun e w' => e = .returned (.bool true) ∧ Below w.heap.size w w' := by
  have Rx : Hid (WideAt w.heap.size xh xl (w.alloc (.cells #[.int .i64 xh, .int .u64 xl] 24))) := Lib.hid (heap_alloc_new _ _)
  have HB : Hid (Below w.heap.size w (w.alloc (.cells #[.int .i64 xh, .int .u64 xl] 24))) := Lib.hid (by go_grown)
  go_enter Try.func4, Try.ntmps4
  go_wp2_with (refine wpList_load_row rfl 24 (.tmp 4) rfl (w.heap.size) rfl _ _ _ _ Rx.out Try.underlying24 rfl (by kernel_rfl) ?_)
  refine (cWD.out _).mono ?_
  rintro e w1 ⟨rfl, hbn⟩
  have Bn := bnext HB.out hbn
  have HBn : Hid (Below w.heap.size w (w1.alloc (.cells #[.int .i64 qh, .int .u64 ql] 24))) := Lib.hid (Bn.alloc Bn.size _)
  clear HB
  have HB := HBn
  clear HBn
  replace Rx : Hid (WideAt (w.heap.size) xh xl (w1.alloc (.cells #[.int .i64 qh, .int .u64 ql] 24))) := Lib.hid (step_row (WideAt.below hbn Rx.out))
  have Rq : Hid (WideAt (w1.heap.size) qh ql (w1.alloc (.cells #[.int .i64 qh, .int .u64 ql] 24))) := Lib.hid (heap_alloc_new _ _)
  clear hbn Bn
  go_wp2_with (refine wpList_load_row rfl 24 (.tmp 4) rfl (w.heap.size) rfl _ _ _ _ Rx.out Try.underlying24 rfl (by kernel_rfl) ?_)
  refine (cF.out _).mono ?_
  rintro e w2 ⟨rfl, hbn⟩
  have Bn := bnext HB.out hbn
  have HBn : Hid (Below w.heap.size w w2) := Lib.hid (Bn)
  clear HB
  have HB := HBn
  clear HBn
  replace Rx : Hid (WideAt (w.heap.size) xh xl w2) := Lib.hid (WideAt.below hbn Rx.out)
  replace Rq : Hid (WideAt (w1.heap.size) qh ql w2) := Lib.hid (WideAt.below hbn Rq.out)
  clear hbn Bn
  go_wp2_with fail
  refine (cOc.out _).mono ?_
  rintro e w3 ⟨rfl, hbn⟩
  have Bn := bnext HB.out hbn
  have HBn : Hid (Below w.heap.size w w3) := Lib.hid (Bn)
  clear HB
  have HB := HBn
  clear HBn
  replace Rx : Hid (WideAt (w.heap.size) xh xl w3) := Lib.hid (WideAt.below hbn Rx.out)
  replace Rq : Hid (WideAt (w1.heap.size) qh ql w3) := Lib.hid (WideAt.below hbn Rq.out)
  clear hbn Bn
  go_wp2_with fail
  refine (cD.out _).mono ?_
  rintro e w4 ⟨rfl, hbn⟩
  have Bn := bnext HB.out hbn
  have Z1 : Hid (BigAt (w4.heap.size) 0 ((w4.alloc (.cells #[.bool false, .int .u64 0, .int .u64 0, .int .u64 0, .int .u64 0, .int .u64 0, .int .u64 0, .int .u64 0, .int .u64 0, .int .u64 0, .int .u64 0, .int .u64 0, .int .u64 0, .int .u64 0, .int .u64 0, .int .u64 0, .int .u64 0, .int .u64 0, .int .u64 0, .int .u64 0, .int .u64 0] 27)).alloc (.cells #[.bool false, .int .u64 0, .int .u64 0, .int .u64 0, .int .u64 0, .int .u64 0, .int .u64 0, .int .u64 0, .int .u64 0, .int .u64 0, .int .u64 0, .int .u64 0, .int .u64 0, .int .u64 0, .int .u64 0, .int .u64 0, .int .u64 0, .int .u64 0, .int .u64 0, .int .u64 0, .int .u64 0] 27))) := Lib.hid (step_row (heap_alloc_new _ _))
  have Z2 : Hid (BigAt (w4.heap.size + 1) 0 (((w4.alloc (.cells #[.bool false, .int .u64 0, .int .u64 0, .int .u64 0, .int .u64 0, .int .u64 0, .int .u64 0, .int .u64 0, .int .u64 0, .int .u64 0, .int .u64 0, .int .u64 0, .int .u64 0, .int .u64 0, .int .u64 0, .int .u64 0, .int .u64 0, .int .u64 0, .int .u64 0, .int .u64 0, .int .u64 0] 27)).alloc (.cells #[.bool false, .int .u64 0, .int .u64 0, .int .u64 0, .int .u64 0, .int .u64 0, .int .u64 0, .int .u64 0, .int .u64 0, .int .u64 0, .int .u64 0, .int .u64 0, .int .u64 0, .int .u64 0, .int .u64 0, .int .u64 0, .int .u64 0, .int .u64 0, .int .u64 0, .int .u64 0, .int .u64 0] 27)).setRow (w4.heap.size) (bv P))) := Lib.hid (BigAt.other (k := w4.heap.size) (show BigAt (w4.heap.size + 1) 0 ((w4.alloc (.cells #[.bool false, .int .u64 0, .int .u64 0, .int .u64 0, .int .u64 0, .int .u64 0, .int .u64 0, .int .u64 0, .int .u64 0, .int .u64 0, .int .u64 0, .int .u64 0, .int .u64 0, .int .u64 0, .int .u64 0, .int .u64 0, .int .u64 0, .int .u64 0, .int .u64 0, .int .u64 0, .int .u64 0] 27)).alloc (.cells #[.bool false, .int .u64 0, .int .u64 0, .int .u64 0, .int .u64 0, .int .u64 0, .int .u64 0, .int .u64 0, .int .u64 0, .int .u64 0, .int .u64 0, .int .u64 0, .int .u64 0, .int .u64 0, .int .u64 0, .int .u64 0, .int .u64 0, .int .u64 0, .int .u64 0, .int .u64 0, .int .u64 0] 27)) from heap_alloc2_new _ _ _) (by omega) _)
  have Bz : Below w4.heap.size w4 ((((w4.alloc (.cells #[.bool false, .int .u64 0, .int .u64 0, .int .u64 0, .int .u64 0, .int .u64 0, .int .u64 0, .int .u64 0, .int .u64 0, .int .u64 0, .int .u64 0, .int .u64 0, .int .u64 0, .int .u64 0, .int .u64 0, .int .u64 0, .int .u64 0, .int .u64 0, .int .u64 0, .int .u64 0, .int .u64 0] 27)).alloc (.cells #[.bool false, .int .u64 0, .int .u64 0, .int .u64 0, .int .u64 0, .int .u64 0, .int .u64 0, .int .u64 0, .int .u64 0, .int .u64 0, .int .u64 0, .int .u64 0, .int .u64 0, .int .u64 0, .int .u64 0, .int .u64 0, .int .u64 0, .int .u64 0, .int .u64 0, .int .u64 0, .int .u64 0] 27)).setRow (w4.heap.size) (bv P)).setRow (w4.heap.size + 1) (bv S)) := Below.row (Below.row (by go_grown) (Nat.le_refl _) _) (by omega) _
  have HBn : Hid (Below w.heap.size w ((((w4.alloc (.cells #[.bool false, .int .u64 0, .int .u64 0, .int .u64 0, .int .u64 0, .int .u64 0, .int .u64 0, .int .u64 0, .int .u64 0, .int .u64 0, .int .u64 0, .int .u64 0, .int .u64 0, .int .u64 0, .int .u64 0, .int .u64 0, .int .u64 0, .int .u64 0, .int .u64 0, .int .u64 0, .int .u64 0] 27)).alloc (.cells #[.bool false, .int .u64 0, .int .u64 0, .int .u64 0, .int .u64 0, .int .u64 0, .int .u64 0, .int .u64 0, .int .u64 0, .int .u64 0, .int .u64 0, .int .u64 0, .int .u64 0, .int .u64 0, .int .u64 0, .int .u64 0, .int .u64 0, .int .u64 0, .int .u64 0, .int .u64 0, .int .u64 0] 27)).setRow (w4.heap.size) (bv P)).setRow (w4.heap.size + 1) (bv S))) := Lib.hid (bnext Bn Bz)
  clear HB
  have HB := HBn
  clear HBn
  replace Rx : Hid (WideAt (w.heap.size) xh xl ((((w4.alloc (.cells #[.bool false, .int .u64 0, .int .u64 0, .int .u64 0, .int .u64 0, .int .u64 0, .int .u64 0, .int .u64 0, .int .u64 0, .int .u64 0, .int .u64 0, .int .u64 0, .int .u64 0, .int .u64 0, .int .u64 0, .int .u64 0, .int .u64 0, .int .u64 0, .int .u64 0, .int .u64 0, .int .u64 0] 27)).alloc (.cells #[.bool false, .int .u64 0, .int .u64 0, .int .u64 0, .int .u64 0, .int .u64 0, .int .u64 0, .int .u64 0, .int .u64 0, .int .u64 0, .int .u64 0, .int .u64 0, .int .u64 0, .int .u64 0, .int .u64 0, .int .u64 0, .int .u64 0, .int .u64 0, .int .u64 0, .int .u64 0, .int .u64 0] 27)).setRow (w4.heap.size) (bv P)).setRow (w4.heap.size + 1) (bv S))) := Lib.hid (WideAt.below Bz (WideAt.below hbn Rx.out))
  replace Rq : Hid (WideAt (w1.heap.size) qh ql ((((w4.alloc (.cells #[.bool false, .int .u64 0, .int .u64 0, .int .u64 0, .int .u64 0, .int .u64 0, .int .u64 0, .int .u64 0, .int .u64 0, .int .u64 0, .int .u64 0, .int .u64 0, .int .u64 0, .int .u64 0, .int .u64 0, .int .u64 0, .int .u64 0, .int .u64 0, .int .u64 0, .int .u64 0, .int .u64 0] 27)).alloc (.cells #[.bool false, .int .u64 0, .int .u64 0, .int .u64 0, .int .u64 0, .int .u64 0, .int .u64 0, .int .u64 0, .int .u64 0, .int .u64 0, .int .u64 0, .int .u64 0, .int .u64 0, .int .u64 0, .int .u64 0, .int .u64 0, .int .u64 0, .int .u64 0, .int .u64 0, .int .u64 0, .int .u64 0] 27)).setRow (w4.heap.size) (bv P)).setRow (w4.heap.size + 1) (bv S))) := Lib.hid (WideAt.below Bz (WideAt.below hbn Rq.out))
  have Rp : Hid (BigAt (w4.heap.size) P ((((w4.alloc (.cells #[.bool false, .int .u64 0, .int .u64 0, .int .u64 0, .int .u64 0, .int .u64 0, .int .u64 0, .int .u64 0, .int .u64 0, .int .u64 0, .int .u64 0, .int .u64 0, .int .u64 0, .int .u64 0, .int .u64 0, .int .u64 0, .int .u64 0, .int .u64 0, .int .u64 0, .int .u64 0, .int .u64 0] 27)).alloc (.cells #[.bool false, .int .u64 0, .int .u64 0, .int .u64 0, .int .u64 0, .int .u64 0, .int .u64 0, .int .u64 0, .int .u64 0, .int .u64 0, .int .u64 0, .int .u64 0, .int .u64 0, .int .u64 0, .int .u64 0, .int .u64 0, .int .u64 0, .int .u64 0, .int .u64 0, .int .u64 0, .int .u64 0] 27)).setRow (w4.heap.size) (bv P)).setRow (w4.heap.size + 1) (bv S))) := Lib.hid (BigAt.other (k := w4.heap.size + 1) (BigAt.row Z1.out P) (by omega) _)
  have Rs : Hid (BigAt (w4.heap.size + 1) S ((((w4.alloc (.cells #[.bool false, .int .u64 0, .int .u64 0, .int .u64 0, .int .u64 0, .int .u64 0, .int .u64 0, .int .u64 0, .int .u64 0, .int .u64 0, .int .u64 0, .int .u64 0, .int .u64 0, .int .u64 0, .int .u64 0, .int .u64 0, .int .u64 0, .int .u64 0, .int .u64 0, .int .u64 0, .int .u64 0] 27)).alloc (.cells #[.bool false, .int .u64 0, .int .u64 0, .int .u64 0, .int .u64 0, .int .u64 0, .int .u64 0, .int .u64 0, .int .u64 0, .int .u64 0, .int .u64 0, .int .u64 0, .int .u64 0, .int .u64 0, .int .u64 0, .int .u64 0, .int .u64 0, .int .u64 0, .int .u64 0, .int .u64 0, .int .u64 0] 27)).setRow (w4.heap.size) (bv P)).setRow (w4.heap.size + 1) (bv S))) := Lib.hid (BigAt.row Z2.out S)
  clear hbn Bn Bz
  go_wp2_with (first | (refine wpList_store_big rfl 27 (.tmp 12) (.tmp 36) rfl (w4.heap.size) _ _ (bv P) rfl rfl Z1.out (bv_info _) (bv_same _ _) (bv_one _) ?_) | (refine wpList_store_big rfl 27 (.tmp 13) (.tmp 37) rfl (w4.heap.size + 1) _ _ (bv S) rfl rfl Z2.out (bv_info _) (bv_same _ _) (bv_one _) ?_) | (refine wpList_load_row rfl 27 (.tmp 12) rfl (w4.heap.size) rfl _ _ _ _ Rp.out Try.underlying27 rfl (bv_info _) ?_))
  refine (cC.out _).mono ?_
  rintro e w5 ⟨rfl, hbn⟩
  have Bn := bnext HB.out hbn
  have HBn : Hid (Below w.heap.size w (w5.alloc (.cells #[.int .i64 qh, .int .u64 ql] 24))) := Lib.hid (Bn.alloc Bn.size _)
  clear HB
  have HB := HBn
  clear HBn
  replace Rx : Hid (WideAt (w.heap.size) xh xl (w5.alloc (.cells #[.int .i64 qh, .int .u64 ql] 24))) := Lib.hid (step_row (WideAt.below hbn Rx.out))
  replace Rq : Hid (WideAt (w1.heap.size) qh ql (w5.alloc (.cells #[.int .i64 qh, .int .u64 ql] 24))) := Lib.hid (step_row (WideAt.below hbn Rq.out))
  replace Rp : Hid (BigAt (w4.heap.size) P (w5.alloc (.cells #[.int .i64 qh, .int .u64 ql] 24))) := Lib.hid (step_row (BigAt.below hbn Rp.out))
  replace Rs : Hid (BigAt (w4.heap.size + 1) S (w5.alloc (.cells #[.int .i64 qh, .int .u64 ql] 24))) := Lib.hid (step_row (BigAt.below hbn Rs.out))
  have Rv : Hid (WideAt (w5.heap.size) qh ql (w5.alloc (.cells #[.int .i64 qh, .int .u64 ql] 24))) := Lib.hid (heap_alloc_new _ _)
  clear hbn Bn
  go_wp2_with fail
  refine (cWM.out _).mono ?_
  rintro e w6 ⟨rfl, hbn⟩
  have Bn := bnext HB.out hbn
  have HBn : Hid (Below w.heap.size w w6) := Lib.hid (Bn)
  clear HB
  have HB := HBn
  clear HBn
  replace Rx : Hid (WideAt (w.heap.size) xh xl w6) := Lib.hid (WideAt.below hbn Rx.out)
  replace Rq : Hid (WideAt (w1.heap.size) qh ql w6) := Lib.hid (WideAt.below hbn Rq.out)
  replace Rp : Hid (BigAt (w4.heap.size) P w6) := Lib.hid (BigAt.below hbn Rp.out)
  replace Rs : Hid (BigAt (w4.heap.size + 1) S w6) := Lib.hid (BigAt.below hbn Rs.out)
  replace Rv : Hid (WideAt (w5.heap.size) qh ql w6) := Lib.hid (WideAt.below hbn Rv.out)
  clear hbn Bn
  go_wp2_with (first | (refine wpList_load_big (by kernel_rfl) 24 (.tmp 9) rfl (w1.heap.size) rfl _ _ _ _ Rq.out Try.underlying24 rfl (by kernel_rfl) ?_) | (refine wpList_load_big (by kernel_rfl) 24 (.tmp 15) rfl (w5.heap.size) rfl _ _ _ _ Rv.out Try.underlying24 rfl (by kernel_rfl) ?_))
  refine (cOa.out _).mono ?_
  rintro e w7a ⟨rfl, hbn⟩
  have Bn := bnext HB.out hbn
  have HBn : Hid (Below w.heap.size w w7a) := Lib.hid (Bn)
  clear HB
  have HB := HBn
  clear HBn
  replace Rx : Hid (WideAt (w.heap.size) xh xl w7a) := Lib.hid (WideAt.below hbn Rx.out)
  replace Rq : Hid (WideAt (w1.heap.size) qh ql w7a) := Lib.hid (WideAt.below hbn Rq.out)
  replace Rp : Hid (BigAt (w4.heap.size) P w7a) := Lib.hid (BigAt.below hbn Rp.out)
  replace Rs : Hid (BigAt (w4.heap.size + 1) S w7a) := Lib.hid (BigAt.below hbn Rs.out)
  replace Rv : Hid (WideAt (w5.heap.size) qh ql w7a) := Lib.hid (WideAt.below hbn Rv.out)
  clear hbn Bn
  go_wp2_with fail
  refine (cOb.out _).mono ?_
  rintro e w7b ⟨rfl, hbn⟩
  have Bn := bnext HB.out hbn
  have HBn : Hid (Below w.heap.size w w7b) := Lib.hid (Bn)
  clear HB
  have HB := HBn
  clear HBn
  replace Rx : Hid (WideAt (w.heap.size) xh xl w7b) := Lib.hid (WideAt.below hbn Rx.out)
  replace Rq : Hid (WideAt (w1.heap.size) qh ql w7b) := Lib.hid (WideAt.below hbn Rq.out)
  replace Rp : Hid (BigAt (w4.heap.size) P w7b) := Lib.hid (BigAt.below hbn Rp.out)
  replace Rs : Hid (BigAt (w4.heap.size + 1) S w7b) := Lib.hid (BigAt.below hbn Rs.out)
  replace Rv : Hid (WideAt (w5.heap.size) qh ql w7b) := Lib.hid (WideAt.below hbn Rv.out)
  clear hbn Bn
  go_wp2_with fail
  refine (cMu.out _).mono ?_
  rintro e w7c ⟨rfl, hbn⟩
  have Bn := bnext HB.out hbn
  have HBn : Hid (Below w.heap.size w w7c) := Lib.hid (Bn)
  clear HB
  have HB := HBn
  clear HBn
  replace Rx : Hid (WideAt (w.heap.size) xh xl w7c) := Lib.hid (WideAt.below hbn Rx.out)
  replace Rq : Hid (WideAt (w1.heap.size) qh ql w7c) := Lib.hid (WideAt.below hbn Rq.out)
  replace Rp : Hid (BigAt (w4.heap.size) P w7c) := Lib.hid (BigAt.below hbn Rp.out)
  replace Rs : Hid (BigAt (w4.heap.size + 1) S w7c) := Lib.hid (BigAt.below hbn Rs.out)
  replace Rv : Hid (WideAt (w5.heap.size) qh ql w7c) := Lib.hid (WideAt.below hbn Rv.out)
  clear hbn Bn
  go_wp2_with fail
  refine (cOc.out _).mono ?_
  rintro e w7d ⟨rfl, hbn⟩
  have Bn := bnext HB.out hbn
  have HBn : Hid (Below w.heap.size w w7d) := Lib.hid (Bn)
  clear HB
  have HB := HBn
  clear HBn
  replace Rx : Hid (WideAt (w.heap.size) xh xl w7d) := Lib.hid (WideAt.below hbn Rx.out)
  replace Rq : Hid (WideAt (w1.heap.size) qh ql w7d) := Lib.hid (WideAt.below hbn Rq.out)
  replace Rp : Hid (BigAt (w4.heap.size) P w7d) := Lib.hid (BigAt.below hbn Rp.out)
  replace Rs : Hid (BigAt (w4.heap.size + 1) S w7d) := Lib.hid (BigAt.below hbn Rs.out)
  replace Rv : Hid (WideAt (w5.heap.size) qh ql w7d) := Lib.hid (WideAt.below hbn Rv.out)
  clear hbn Bn
  go_wp2_with fail
  refine (cD2.out _).mono ?_
  rintro e w7e ⟨rfl, hbn⟩
  have Bn := bnext HB.out hbn
  have Z1 : Hid (BigAt (w7e.heap.size) 0 ((w7e.alloc (.cells #[.bool false, .int .u64 0, .int .u64 0, .int .u64 0, .int .u64 0, .int .u64 0, .int .u64 0, .int .u64 0, .int .u64 0, .int .u64 0, .int .u64 0, .int .u64 0, .int .u64 0, .int .u64 0, .int .u64 0, .int .u64 0, .int .u64 0, .int .u64 0, .int .u64 0, .int .u64 0, .int .u64 0] 27)).alloc (.cells #[.bool false, .int .u64 0, .int .u64 0, .int .u64 0, .int .u64 0, .int .u64 0, .int .u64 0, .int .u64 0, .int .u64 0, .int .u64 0, .int .u64 0, .int .u64 0, .int .u64 0, .int .u64 0, .int .u64 0, .int .u64 0, .int .u64 0, .int .u64 0, .int .u64 0, .int .u64 0, .int .u64 0] 27))) := Lib.hid (step_row (heap_alloc_new _ _))
  have Z2 : Hid (BigAt (w7e.heap.size + 1) 0 (((w7e.alloc (.cells #[.bool false, .int .u64 0, .int .u64 0, .int .u64 0, .int .u64 0, .int .u64 0, .int .u64 0, .int .u64 0, .int .u64 0, .int .u64 0, .int .u64 0, .int .u64 0, .int .u64 0, .int .u64 0, .int .u64 0, .int .u64 0, .int .u64 0, .int .u64 0, .int .u64 0, .int .u64 0, .int .u64 0] 27)).alloc (.cells #[.bool false, .int .u64 0, .int .u64 0, .int .u64 0, .int .u64 0, .int .u64 0, .int .u64 0, .int .u64 0, .int .u64 0, .int .u64 0, .int .u64 0, .int .u64 0, .int .u64 0, .int .u64 0, .int .u64 0, .int .u64 0, .int .u64 0, .int .u64 0, .int .u64 0, .int .u64 0, .int .u64 0] 27)).setRow (w7e.heap.size) (bv M))) := Lib.hid (BigAt.other (k := w7e.heap.size) (show BigAt (w7e.heap.size + 1) 0 ((w7e.alloc (.cells #[.bool false, .int .u64 0, .int .u64 0, .int .u64 0, .int .u64 0, .int .u64 0, .int .u64 0, .int .u64 0, .int .u64 0, .int .u64 0, .int .u64 0, .int .u64 0, .int .u64 0, .int .u64 0, .int .u64 0, .int .u64 0, .int .u64 0, .int .u64 0, .int .u64 0, .int .u64 0, .int .u64 0] 27)).alloc (.cells #[.bool false, .int .u64 0, .int .u64 0, .int .u64 0, .int .u64 0, .int .u64 0, .int .u64 0, .int .u64 0, .int .u64 0, .int .u64 0, .int .u64 0, .int .u64 0, .int .u64 0, .int .u64 0, .int .u64 0, .int .u64 0, .int .u64 0, .int .u64 0, .int .u64 0, .int .u64 0, .int .u64 0] 27)) from heap_alloc2_new _ _ _) (by omega) _)
  have Bz : Below w7e.heap.size w7e ((((w7e.alloc (.cells #[.bool false, .int .u64 0, .int .u64 0, .int .u64 0, .int .u64 0, .int .u64 0, .int .u64 0, .int .u64 0, .int .u64 0, .int .u64 0, .int .u64 0, .int .u64 0, .int .u64 0, .int .u64 0, .int .u64 0, .int .u64 0, .int .u64 0, .int .u64 0, .int .u64 0, .int .u64 0, .int .u64 0] 27)).alloc (.cells #[.bool false, .int .u64 0, .int .u64 0, .int .u64 0, .int .u64 0, .int .u64 0, .int .u64 0, .int .u64 0, .int .u64 0, .int .u64 0, .int .u64 0, .int .u64 0, .int .u64 0, .int .u64 0, .int .u64 0, .int .u64 0, .int .u64 0, .int .u64 0, .int .u64 0, .int .u64 0, .int .u64 0] 27)).setRow (w7e.heap.size) (bv M)).setRow (w7e.heap.size + 1) (bv N)) := Below.row (Below.row (by go_grown) (Nat.le_refl _) _) (by omega) _
  have HBn : Hid (Below w.heap.size w ((((w7e.alloc (.cells #[.bool false, .int .u64 0, .int .u64 0, .int .u64 0, .int .u64 0, .int .u64 0, .int .u64 0, .int .u64 0, .int .u64 0, .int .u64 0, .int .u64 0, .int .u64 0, .int .u64 0, .int .u64 0, .int .u64 0, .int .u64 0, .int .u64 0, .int .u64 0, .int .u64 0, .int .u64 0, .int .u64 0] 27)).alloc (.cells #[.bool false, .int .u64 0, .int .u64 0, .int .u64 0, .int .u64 0, .int .u64 0, .int .u64 0, .int .u64 0, .int .u64 0, .int .u64 0, .int .u64 0, .int .u64 0, .int .u64 0, .int .u64 0, .int .u64 0, .int .u64 0, .int .u64 0, .int .u64 0, .int .u64 0, .int .u64 0, .int .u64 0] 27)).setRow (w7e.heap.size) (bv M)).setRow (w7e.heap.size + 1) (bv N))) := Lib.hid (bnext Bn Bz)
  clear HB
  have HB := HBn
  clear HBn
  replace Rx : Hid (WideAt (w.heap.size) xh xl ((((w7e.alloc (.cells #[.bool false, .int .u64 0, .int .u64 0, .int .u64 0, .int .u64 0, .int .u64 0, .int .u64 0, .int .u64 0, .int .u64 0, .int .u64 0, .int .u64 0, .int .u64 0, .int .u64 0, .int .u64 0, .int .u64 0, .int .u64 0, .int .u64 0, .int .u64 0, .int .u64 0, .int .u64 0, .int .u64 0] 27)).alloc (.cells #[.bool false, .int .u64 0, .int .u64 0, .int .u64 0, .int .u64 0, .int .u64 0, .int .u64 0, .int .u64 0, .int .u64 0, .int .u64 0, .int .u64 0, .int .u64 0, .int .u64 0, .int .u64 0, .int .u64 0, .int .u64 0, .int .u64 0, .int .u64 0, .int .u64 0, .int .u64 0, .int .u64 0] 27)).setRow (w7e.heap.size) (bv M)).setRow (w7e.heap.size + 1) (bv N))) := Lib.hid (WideAt.below Bz (WideAt.below hbn Rx.out))
  replace Rq : Hid (WideAt (w1.heap.size) qh ql ((((w7e.alloc (.cells #[.bool false, .int .u64 0, .int .u64 0, .int .u64 0, .int .u64 0, .int .u64 0, .int .u64 0, .int .u64 0, .int .u64 0, .int .u64 0, .int .u64 0, .int .u64 0, .int .u64 0, .int .u64 0, .int .u64 0, .int .u64 0, .int .u64 0, .int .u64 0, .int .u64 0, .int .u64 0, .int .u64 0] 27)).alloc (.cells #[.bool false, .int .u64 0, .int .u64 0, .int .u64 0, .int .u64 0, .int .u64 0, .int .u64 0, .int .u64 0, .int .u64 0, .int .u64 0, .int .u64 0, .int .u64 0, .int .u64 0, .int .u64 0, .int .u64 0, .int .u64 0, .int .u64 0, .int .u64 0, .int .u64 0, .int .u64 0, .int .u64 0] 27)).setRow (w7e.heap.size) (bv M)).setRow (w7e.heap.size + 1) (bv N))) := Lib.hid (WideAt.below Bz (WideAt.below hbn Rq.out))
  replace Rp : Hid (BigAt (w4.heap.size) P ((((w7e.alloc (.cells #[.bool false, .int .u64 0, .int .u64 0, .int .u64 0, .int .u64 0, .int .u64 0, .int .u64 0, .int .u64 0, .int .u64 0, .int .u64 0, .int .u64 0, .int .u64 0, .int .u64 0, .int .u64 0, .int .u64 0, .int .u64 0, .int .u64 0, .int .u64 0, .int .u64 0, .int .u64 0, .int .u64 0] 27)).alloc (.cells #[.bool false, .int .u64 0, .int .u64 0, .int .u64 0, .int .u64 0, .int .u64 0, .int .u64 0, .int .u64 0, .int .u64 0, .int .u64 0, .int .u64 0, .int .u64 0, .int .u64 0, .int .u64 0, .int .u64 0, .int .u64 0, .int .u64 0, .int .u64 0, .int .u64 0, .int .u64 0, .int .u64 0] 27)).setRow (w7e.heap.size) (bv M)).setRow (w7e.heap.size + 1) (bv N))) := Lib.hid (BigAt.below Bz (BigAt.below hbn Rp.out))
  replace Rs : Hid (BigAt (w4.heap.size + 1) S ((((w7e.alloc (.cells #[.bool false, .int .u64 0, .int .u64 0, .int .u64 0, .int .u64 0, .int .u64 0, .int .u64 0, .int .u64 0, .int .u64 0, .int .u64 0, .int .u64 0, .int .u64 0, .int .u64 0, .int .u64 0, .int .u64 0, .int .u64 0, .int .u64 0, .int .u64 0, .int .u64 0, .int .u64 0, .int .u64 0] 27)).alloc (.cells #[.bool false, .int .u64 0, .int .u64 0, .int .u64 0, .int .u64 0, .int .u64 0, .int .u64 0, .int .u64 0, .int .u64 0, .int .u64 0, .int .u64 0, .int .u64 0, .int .u64 0, .int .u64 0, .int .u64 0, .int .u64 0, .int .u64 0, .int .u64 0, .int .u64 0, .int .u64 0, .int .u64 0] 27)).setRow (w7e.heap.size) (bv M)).setRow (w7e.heap.size + 1) (bv N))) := Lib.hid (BigAt.below Bz (BigAt.below hbn Rs.out))
  replace Rv : Hid (WideAt (w5.heap.size) qh ql ((((w7e.alloc (.cells #[.bool false, .int .u64 0, .int .u64 0, .int .u64 0, .int .u64 0, .int .u64 0, .int .u64 0, .int .u64 0, .int .u64 0, .int .u64 0, .int .u64 0, .int .u64 0, .int .u64 0, .int .u64 0, .int .u64 0, .int .u64 0, .int .u64 0, .int .u64 0, .int .u64 0, .int .u64 0, .int .u64 0] 27)).alloc (.cells #[.bool false, .int .u64 0, .int .u64 0, .int .u64 0, .int .u64 0, .int .u64 0, .int .u64 0, .int .u64 0, .int .u64 0, .int .u64 0, .int .u64 0, .int .u64 0, .int .u64 0, .int .u64 0, .int .u64 0, .int .u64 0, .int .u64 0, .int .u64 0, .int .u64 0, .int .u64 0, .int .u64 0] 27)).setRow (w7e.heap.size) (bv M)).setRow (w7e.heap.size + 1) (bv N))) := Lib.hid (WideAt.below Bz (WideAt.below hbn Rv.out))
  have Rm : Hid (BigAt (w7e.heap.size) M ((((w7e.alloc (.cells #[.bool false, .int .u64 0, .int .u64 0, .int .u64 0, .int .u64 0, .int .u64 0, .int .u64 0, .int .u64 0, .int .u64 0, .int .u64 0, .int .u64 0, .int .u64 0, .int .u64 0, .int .u64 0, .int .u64 0, .int .u64 0, .int .u64 0, .int .u64 0, .int .u64 0, .int .u64 0, .int .u64 0] 27)).alloc (.cells #[.bool false, .int .u64 0, .int .u64 0, .int .u64 0, .int .u64 0, .int .u64 0, .int .u64 0, .int .u64 0, .int .u64 0, .int .u64 0, .int .u64 0, .int .u64 0, .int .u64 0, .int .u64 0, .int .u64 0, .int .u64 0, .int .u64 0, .int .u64 0, .int .u64 0, .int .u64 0, .int .u64 0] 27)).setRow (w7e.heap.size) (bv M)).setRow (w7e.heap.size + 1) (bv N))) := Lib.hid (BigAt.other (k := w7e.heap.size + 1) (BigAt.row Z1.out M) (by omega) _)
  have Rn : Hid (BigAt (w7e.heap.size + 1) N ((((w7e.alloc (.cells #[.bool false, .int .u64 0, .int .u64 0, .int .u64 0, .int .u64 0, .int .u64 0, .int .u64 0, .int .u64 0, .int .u64 0, .int .u64 0, .int .u64 0, .int .u64 0, .int .u64 0, .int .u64 0, .int .u64 0, .int .u64 0, .int .u64 0, .int .u64 0, .int .u64 0, .int .u64 0, .int .u64 0] 27)).alloc (.cells #[.bool false, .int .u64 0, .int .u64 0, .int .u64 0, .int .u64 0, .int .u64 0, .int .u64 0, .int .u64 0, .int .u64 0, .int .u64 0, .int .u64 0, .int .u64 0, .int .u64 0, .int .u64 0, .int .u64 0, .int .u64 0, .int .u64 0, .int .u64 0, .int .u64 0, .int .u64 0, .int .u64 0] 27)).setRow (w7e.heap.size) (bv M)).setRow (w7e.heap.size + 1) (bv N))) := Lib.hid (BigAt.row Z2.out N)
  clear hbn Bn Bz
  go_wp2_with (first | (refine wpList_store_big rfl 27 (.tmp 19) (.tmp 101) rfl (w7e.heap.size) _ _ (bv M) rfl rfl Z1.out (bv_info _) (bv_same _ _) (bv_one _) ?_) | (refine wpList_store_big rfl 27 (.tmp 20) (.tmp 102) rfl (w7e.heap.size + 1) _ _ (bv N) rfl rfl Z2.out (bv_info _) (bv_same _ _) (bv_one _) ?_))
  generalize ((((w7e.alloc (.cells #[.bool false, .int .u64 0, .int .u64 0, .int .u64 0, .int .u64 0, .int .u64 0, .int .u64 0, .int .u64 0, .int .u64 0, .int .u64 0, .int .u64 0, .int .u64 0, .int .u64 0, .int .u64 0, .int .u64 0, .int .u64 0, .int .u64 0, .int .u64 0, .int .u64 0, .int .u64 0, .int .u64 0] 27)).alloc (.cells #[.bool false, .int .u64 0, .int .u64 0, .int .u64 0, .int .u64 0, .int .u64 0, .int .u64 0, .int .u64 0, .int .u64 0, .int .u64 0, .int .u64 0, .int .u64 0, .int .u64 0, .int .u64 0, .int .u64 0, .int .u64 0, .int .u64 0, .int .u64 0, .int .u64 0, .int .u64 0, .int .u64 0] 27)).setRow (w7e.heap.size) (bv M)).setRow (w7e.heap.size + 1) (bv N)) = V at Rx Rq Rp Rs Rv Rm Rn HB ⊢
  clear Z1 Z2
  rename_i K13 hK13
  refine (wpIn_wide (n := 5)).1 (held_region (F := Fence.wide) (S := fun X => Below V.heap.size V X) (by kernel_rfl) (bdrew0 _ _ 1) (fun hHeld => ?_))
  refine held_take (fun _ => trivial) (by kernel_rfl) (i := 0) (oi := _) (v := .agg (bv M)) rfl (by kernel_rfl) (by kernel_rfl) (by kernel_rfl) (fun _ _ _ h => h) (by assumption) (Or.inl ⟨by kernel_rfl, ?_⟩) ?_
  · intro wz hSw; exact exec_load_row 27 (.tmp 19) (by kernel_rfl) (w7e.heap.size) (by kernel_rfl) _ _ _ _ (BigAt.below hSw Rm.out) Try.underlying27 (by kernel_rfl) (bv_info _)
  (try simp only [Act.put, List.getElem_toArray, List.getElem_cons_zero, List.getElem_cons_succ, List.setIfInBounds_toArray, List.set_cons_zero, List.set_cons_succ])
  refine held_step (fun _ => trivial) (i := 1) (o := _) (by kernel_rfl) rfl (fun K hK => ?_)
  go_simp
  refine ⟨trivial, callsIn_wide.2 ((cTw.out _).mono ?_)⟩
  rintro e x1 ⟨rfl, hb1⟩
  dsimp only
  refine hK.out _ _ (bnext hHeld hb1) (fun hHeld => ?_)
  clear hK K
  (try simp only [Act.put, List.getElem_toArray, List.getElem_cons_zero, List.getElem_cons_succ, List.setIfInBounds_toArray, List.set_cons_zero, List.set_cons_succ])
  refine held_step (fun _ => trivial) (i := 2) (o := _) (by kernel_rfl) rfl (fun K hK => ?_)
  go_simp
  refine ⟨trivial, callsIn_wide.2 ((cNt.out _).mono ?_)⟩
  rintro e x2 ⟨rfl, hb2⟩
  dsimp only
  refine hK.out _ _ (bnext hHeld hb2) (fun hHeld => ?_)
  clear hK K
  (try simp only [Act.put, List.getElem_toArray, List.getElem_cons_zero, List.getElem_cons_succ, List.setIfInBounds_toArray, List.set_cons_zero, List.set_cons_succ])
  refine held_step (fun _ => trivial) (i := 3) (o := _) (by kernel_rfl) rfl (fun K hK => ?_)
  go_simp
  refine ⟨trivial, callsIn_wide.2 ((cL3.out _).mono ?_)⟩
  rintro e x3 ⟨rfl, hb3⟩
  dsimp only
  refine hK.out _ _ (bnext hHeld hb3) (fun hHeld => ?_)
  clear hK K
  (try simp only [Act.put, List.getElem_toArray, List.getElem_cons_zero, List.getElem_cons_succ, List.setIfInBounds_toArray, List.set_cons_zero, List.set_cons_succ])
  refine held_take (fun _ => trivial) (by kernel_rfl) (i := 4) (oi := _) (v := ?_) rfl (by kernel_rfl) (by kernel_rfl) (by kernel_rfl) (fun _ _ _ h => h) (by assumption) (Or.inl ⟨by kernel_rfl, ?_⟩) ?_
  rotate_left
  · intro wz hSw; (first | (go_simp; done) | (go_simp; with_reducible rfl))
  (try simp only [Act.put, List.getElem_toArray, List.getElem_cons_zero, List.getElem_cons_succ, List.setIfInBounds_toArray, List.set_cons_zero, List.set_cons_succ])
  refine held_take (fun _ => trivial) (by kernel_rfl) (i := 5) (oi := _) (v := ?_) rfl (by kernel_rfl) (by kernel_rfl) (by kernel_rfl) (fun _ _ _ h => h) (by assumption) (Or.inl ⟨by kernel_rfl, ?_⟩) ?_
  rotate_left
  · intro wz hSw; (first | (go_simp; done) | (go_simp; with_reducible rfl))
  (try simp only [Act.put, List.getElem_toArray, List.getElem_cons_zero, List.getElem_cons_succ, List.setIfInBounds_toArray, List.set_cons_zero, List.set_cons_succ])
  refine held_take (fun _ => trivial) (by kernel_rfl) (i := 6) (oi := _) (v := undef) rfl (by kernel_rfl) (by kernel_rfl) (by kernel_rfl) (fun _ _ _ h => h) (by assumption) (Or.inr ⟨by kernel_rfl, rfl⟩) ?_
  (try simp only [Act.put, List.getElem_toArray, List.getElem_cons_zero, List.getElem_cons_succ, List.setIfInBounds_toArray, List.set_cons_zero, List.set_cons_succ])
  refine held_step (fun _ => trivial) (i := 7) (o := _) (by kernel_rfl) rfl (fun K hK => ?_)
  go_simp
  refine hK.out _ _ (hHeld) (fun hHeld => ?_)
  clear hK K
  (try simp only [Act.put, List.getElem_toArray, List.getElem_cons_zero, List.getElem_cons_succ, List.setIfInBounds_toArray, List.set_cons_zero, List.set_cons_succ])
  refine held_step (fun _ => trivial) (i := 8) (o := _) (by kernel_rfl) rfl (fun K hK => ?_)
  go_simp
  refine hK.out _ _ (hHeld) (fun hHeld => ?_)
  clear hK K
  (try simp only [Act.put, List.getElem_toArray, List.getElem_cons_zero, List.getElem_cons_succ, List.setIfInBounds_toArray, List.set_cons_zero, List.set_cons_succ])
  refine held_take (fun _ => trivial) (by kernel_rfl) (i := 9) (oi := _) (v := ?_) rfl (by kernel_rfl) (by kernel_rfl) (by kernel_rfl) (fun _ _ _ h => h) (by assumption) (Or.inl ⟨by kernel_rfl, ?_⟩) ?_
  rotate_left
  · intro wz hSw; (first | (go_simp; done) | (go_simp; with_reducible rfl))
  (try simp only [Act.put, List.getElem_toArray, List.getElem_cons_zero, List.getElem_cons_succ, List.setIfInBounds_toArray, List.set_cons_zero, List.set_cons_succ])
  refine held_take (fun _ => trivial) (by kernel_rfl) (i := 10) (oi := _) (v := ?_) rfl (by kernel_rfl) (by kernel_rfl) (by kernel_rfl) (fun _ _ _ h => h) (by assumption) (Or.inl ⟨by kernel_rfl, ?_⟩) ?_
  rotate_left
  · intro wz hSw; (first | (go_simp; done) | (go_simp; with_reducible rfl))
  (try simp only [Act.put, List.getElem_toArray, List.getElem_cons_zero, List.getElem_cons_succ, List.setIfInBounds_toArray, List.set_cons_zero, List.set_cons_succ])
  refine held_done (by kernel_rfl) ?_ _
  refine hK13 _ _ ?_
  have HBn : Hid (Below w.heap.size w x3) := Lib.hid (bnext HB.out hHeld)
  clear HB
  have HB := HBn
  clear HBn
  replace Rx : Hid (WideAt (w.heap.size) xh xl x3) := Lib.hid (WideAt.below hHeld Rx.out)
  replace Rq : Hid (WideAt (w1.heap.size) qh ql x3) := Lib.hid (WideAt.below hHeld Rq.out)
  replace Rp : Hid (BigAt (w4.heap.size) P x3) := Lib.hid (BigAt.below hHeld Rp.out)
  replace Rs : Hid (BigAt (w4.heap.size + 1) S x3) := Lib.hid (BigAt.below hHeld Rs.out)
  replace Rv : Hid (WideAt (w5.heap.size) qh ql x3) := Lib.hid (WideAt.below hHeld Rv.out)
  replace Rm : Hid (BigAt (w7e.heap.size) M x3) := Lib.hid (BigAt.below hHeld Rm.out)
  replace Rn : Hid (BigAt (w7e.heap.size + 1) N x3) := Lib.hid (BigAt.below hHeld Rn.out)
  clear hK13 hHeld hb1 hb2 hb3
  go_wp2_with fail
  rename_i K14 hK14
  have heb := fun W => eq_big M W
  refine (wpIn_wide (n := 5)).1 (held_region (F := Fence.wide) (S := fun X => Below x3.heap.size x3 X) (by kernel_rfl) (bdrew0 _ _ 1) (fun hHeld => ?_))
  refine held_take (fun _ => trivial) (by kernel_rfl) (i := 0) (oi := _) (v := ?_) rfl (by kernel_rfl) (by kernel_rfl) (by kernel_rfl) (fun _ _ _ h => h) (by assumption) (Or.inl ⟨by kernel_rfl, ?_⟩) ?_
  rotate_left
  · intro wz hSw; (first | (go_simp; done) | (go_simp; with_reducible rfl))
  (try simp only [Act.put, List.getElem_toArray, List.getElem_cons_zero, List.getElem_cons_succ, List.setIfInBounds_toArray, List.set_cons_zero, List.set_cons_succ])
  refine held_take (fun _ => trivial) (by kernel_rfl) (i := 1) (oi := _) (v := ?_) rfl (by kernel_rfl) (by kernel_rfl) (by kernel_rfl) (fun _ _ _ h => h) (by assumption) (Or.inl ⟨by kernel_rfl, ?_⟩) ?_
  rotate_left
  · intro wz hSw; (first | (go_simp; done) | (go_simp; with_reducible rfl))
  (try simp only [Act.put, List.getElem_toArray, List.getElem_cons_zero, List.getElem_cons_succ, List.setIfInBounds_toArray, List.set_cons_zero, List.set_cons_succ])
  refine held_take (fun _ => trivial) (by kernel_rfl) (i := 2) (oi := _) (v := undef) rfl (by kernel_rfl) (by kernel_rfl) (by kernel_rfl) (fun _ _ _ h => h) (by assumption) (Or.inr ⟨by kernel_rfl, rfl⟩) ?_
  (try simp only [Act.put, List.getElem_toArray, List.getElem_cons_zero, List.getElem_cons_succ, List.setIfInBounds_toArray, List.set_cons_zero, List.set_cons_succ])
  refine held_take (fun _ => trivial) (by kernel_rfl) (i := 3) (oi := _) (v := undef) rfl (by kernel_rfl) (by kernel_rfl) (by kernel_rfl) (fun _ _ _ h => h) (by assumption) (Or.inr ⟨by kernel_rfl, rfl⟩) ?_
  (try simp only [Act.put, List.getElem_toArray, List.getElem_cons_zero, List.getElem_cons_succ, List.setIfInBounds_toArray, List.set_cons_zero, List.set_cons_succ])
  refine held_take (fun _ => trivial) (by kernel_rfl) (i := 4) (oi := _) (v := ?_) rfl (by kernel_rfl) (by kernel_rfl) (by kernel_rfl) (fun _ _ _ h => h) (by assumption) (Or.inl ⟨by kernel_rfl, ?_⟩) ?_
  rotate_left
  · intro wz hSw; (first | (go_simp; done) | (go_simp; with_reducible rfl))
  (try simp only [Act.put, List.getElem_toArray, List.getElem_cons_zero, List.getElem_cons_succ, List.setIfInBounds_toArray, List.set_cons_zero, List.set_cons_succ])
  refine held_take (fun _ => trivial) (by kernel_rfl) (i := 5) (oi := _) (v := ?_) rfl (by kernel_rfl) (by kernel_rfl) (by kernel_rfl) (fun _ _ _ h => h) (by assumption) (Or.inl ⟨by kernel_rfl, ?_⟩) ?_
  rotate_left
  · intro wz hSw; (first | (go_simp; done) | (go_simp; with_reducible rfl))
  (try simp only [Act.put, List.getElem_toArray, List.getElem_cons_zero, List.getElem_cons_succ, List.setIfInBounds_toArray, List.set_cons_zero, List.set_cons_succ])
  refine held_take (fun _ => trivial) (by kernel_rfl) (i := 6) (oi := _) (v := undef) rfl (by kernel_rfl) (by kernel_rfl) (by kernel_rfl) (fun _ _ _ h => h) (by assumption) (Or.inr ⟨by kernel_rfl, rfl⟩) ?_
  (try simp only [Act.put, List.getElem_toArray, List.getElem_cons_zero, List.getElem_cons_succ, List.setIfInBounds_toArray, List.set_cons_zero, List.set_cons_succ])
  refine held_take (fun _ => trivial) (by kernel_rfl) (i := 8) (oi := _) (v := undef) rfl (by kernel_rfl) (by kernel_rfl) (by kernel_rfl) (fun _ _ _ h => h) (by assumption) (Or.inr ⟨by kernel_rfl, rfl⟩) ?_
  (try simp only [Act.put, List.getElem_toArray, List.getElem_cons_zero, List.getElem_cons_succ, List.setIfInBounds_toArray, List.set_cons_zero, List.set_cons_succ])
  refine held_step (fun _ => trivial) (i := 7) (o := _) (by kernel_rfl) rfl (fun K hK => ?_)
  go_simp
  refine hK.out _ _ (hHeld) (fun hHeld => ?_)
  clear hK K
  (try simp only [Act.put, List.getElem_toArray, List.getElem_cons_zero, List.getElem_cons_succ, List.setIfInBounds_toArray, List.set_cons_zero, List.set_cons_succ])
  refine held_take (fun _ => trivial) (by kernel_rfl) (i := 9) (oi := _) (v := undef) rfl (by kernel_rfl) (by kernel_rfl) (by kernel_rfl) (fun _ _ _ h => h) (by assumption) (Or.inr ⟨by kernel_rfl, rfl⟩) ?_
  (try simp only [Act.put, List.getElem_toArray, List.getElem_cons_zero, List.getElem_cons_succ, List.setIfInBounds_toArray, List.set_cons_zero, List.set_cons_succ])
  refine held_take (fun _ => trivial) (by kernel_rfl) (i := 10) (oi := _) (v := ?_) rfl (by kernel_rfl) (by kernel_rfl) (by kernel_rfl) (fun _ _ _ h => h) (by assumption) (Or.inl ⟨by kernel_rfl, ?_⟩) ?_
  rotate_left
  · intro wz hSw; (first | (go_simp; done) | (go_simp; with_reducible rfl))
  (try simp only [Act.put, List.getElem_toArray, List.getElem_cons_zero, List.getElem_cons_succ, List.setIfInBounds_toArray, List.set_cons_zero, List.set_cons_succ])
  refine held_take (fun _ => trivial) (by kernel_rfl) (i := 11) (oi := _) (v := ?_) rfl (by kernel_rfl) (by kernel_rfl) (by kernel_rfl) (fun _ _ _ h => h) (by assumption) (Or.inl ⟨by kernel_rfl, ?_⟩) ?_
  rotate_left
  · intro wz hSw; (first | (go_simp; done) | (go_simp; with_reducible rfl))
  (try simp only [Act.put, List.getElem_toArray, List.getElem_cons_zero, List.getElem_cons_succ, List.setIfInBounds_toArray, List.set_cons_zero, List.set_cons_succ])
  refine held_take (fun _ => trivial) (by kernel_rfl) (i := 12) (oi := _) (v := ?_) rfl (by kernel_rfl) (by kernel_rfl) (by kernel_rfl) (fun _ _ _ h => h) (by assumption) (Or.inl ⟨by kernel_rfl, ?_⟩) ?_
  rotate_left
  · intro wz hSw; (first | (go_simp; done) | (go_simp; with_reducible rfl))
  (try simp only [Act.put, List.getElem_toArray, List.getElem_cons_zero, List.getElem_cons_succ, List.setIfInBounds_toArray, List.set_cons_zero, List.set_cons_succ])
  refine held_take (fun _ => trivial) (by kernel_rfl) (i := 13) (oi := _) (v := ?_) rfl (by kernel_rfl) (by kernel_rfl) (by kernel_rfl) (fun _ _ _ h => h) (by assumption) (Or.inl ⟨by kernel_rfl, ?_⟩) ?_
  rotate_left
  · intro wz hSw; (first | (go_simp; done) | (go_simp; with_reducible rfl))
  (try simp only [Act.put, List.getElem_toArray, List.getElem_cons_zero, List.getElem_cons_succ, List.setIfInBounds_toArray, List.set_cons_zero, List.set_cons_succ])
  refine held_take (fun _ => trivial) (by kernel_rfl) (i := 14) (oi := _) (v := ?_) rfl (by kernel_rfl) (by kernel_rfl) (by kernel_rfl) (fun _ _ _ h => h) (by assumption) (Or.inl ⟨by kernel_rfl, ?_⟩) ?_
  rotate_left
  · intro wz hSw; (first | (go_simp; done) | (go_simp; with_reducible rfl))
  (try simp only [Act.put, List.getElem_toArray, List.getElem_cons_zero, List.getElem_cons_succ, List.setIfInBounds_toArray, List.set_cons_zero, List.set_cons_succ])
  refine held_take (fun _ => trivial) (by kernel_rfl) (i := 15) (oi := _) (v := ?_) rfl (by kernel_rfl) (by kernel_rfl) (by kernel_rfl) (fun _ _ _ h => h) (by assumption) (Or.inl ⟨by kernel_rfl, ?_⟩) ?_
  rotate_left
  · intro wz hSw; (first | (go_simp; done) | (go_simp; with_reducible rfl))
  (try simp only [Act.put, List.getElem_toArray, List.getElem_cons_zero, List.getElem_cons_succ, List.setIfInBounds_toArray, List.set_cons_zero, List.set_cons_succ])
  refine held_take (fun _ => trivial) (by kernel_rfl) (i := 16) (oi := _) (v := ?_) rfl (by kernel_rfl) (by kernel_rfl) (by kernel_rfl) (fun _ _ _ h => h) (by assumption) (Or.inl ⟨by kernel_rfl, ?_⟩) ?_
  rotate_left
  · intro wz hSw; (first | (go_simp; done) | (go_simp; with_reducible rfl))
  (try simp only [Act.put, List.getElem_toArray, List.getElem_cons_zero, List.getElem_cons_succ, List.setIfInBounds_toArray, List.set_cons_zero, List.set_cons_succ])
  refine held_take (fun _ => trivial) (by kernel_rfl) (i := 17) (oi := _) (v := ?_) rfl (by kernel_rfl) (by kernel_rfl) (by kernel_rfl) (fun _ _ _ h => h) (by assumption) (Or.inl ⟨by kernel_rfl, ?_⟩) ?_
  rotate_left
  · intro wz hSw; (first | (go_simp; done) | (go_simp; with_reducible rfl))
  (try simp only [Act.put, List.getElem_toArray, List.getElem_cons_zero, List.getElem_cons_succ, List.setIfInBounds_toArray, List.set_cons_zero, List.set_cons_succ])
  refine held_take (fun _ => trivial) (by kernel_rfl) (i := 18) (oi := _) (v := ?_) rfl (by kernel_rfl) (by kernel_rfl) (by kernel_rfl) (fun _ _ _ h => h) (by assumption) (Or.inl ⟨by kernel_rfl, ?_⟩) ?_
  rotate_left
  · intro wz hSw; (first | (go_simp; done) | (go_simp; with_reducible rfl))
  (try simp only [Act.put, List.getElem_toArray, List.getElem_cons_zero, List.getElem_cons_succ, List.setIfInBounds_toArray, List.set_cons_zero, List.set_cons_succ])
  refine held_take (fun _ => trivial) (by kernel_rfl) (i := 19) (oi := _) (v := ?_) rfl (by kernel_rfl) (by kernel_rfl) (by kernel_rfl) (fun _ _ _ h => h) (by assumption) (Or.inl ⟨by kernel_rfl, ?_⟩) ?_
  rotate_left
  · intro wz hSw; (first | (go_simp; done) | (go_simp; with_reducible rfl))
  (try simp only [Act.put, List.getElem_toArray, List.getElem_cons_zero, List.getElem_cons_succ, List.setIfInBounds_toArray, List.set_cons_zero, List.set_cons_succ])
  refine held_take (fun _ => trivial) (by kernel_rfl) (i := 20) (oi := _) (v := ?_) rfl (by kernel_rfl) (by kernel_rfl) (by kernel_rfl) (fun _ _ _ h => h) (by assumption) (Or.inl ⟨by kernel_rfl, ?_⟩) ?_
  rotate_left
  · intro wz hSw; (first | (go_simp; done) | (go_simp; with_reducible rfl))
  (try simp only [Act.put, List.getElem_toArray, List.getElem_cons_zero, List.getElem_cons_succ, List.setIfInBounds_toArray, List.set_cons_zero, List.set_cons_succ])
  refine held_take (fun _ => trivial) (by kernel_rfl) (i := 21) (oi := _) (v := ?_) rfl (by kernel_rfl) (by kernel_rfl) (by kernel_rfl) (fun _ _ _ h => h) (by assumption) (Or.inl ⟨by kernel_rfl, ?_⟩) ?_
  rotate_left
  · intro wz hSw; (first | (go_simp; done) | (go_simp; with_reducible rfl))
  (try simp only [Act.put, List.getElem_toArray, List.getElem_cons_zero, List.getElem_cons_succ, List.setIfInBounds_toArray, List.set_cons_zero, List.set_cons_succ])
  refine held_take (fun _ => trivial) (by kernel_rfl) (i := 22) (oi := _) (v := ?_) rfl (by kernel_rfl) (by kernel_rfl) (by kernel_rfl) (fun _ _ _ h => h) (by assumption) (Or.inl ⟨by kernel_rfl, ?_⟩) ?_
  rotate_left
  · intro wz hSw; (first | (go_simp; done) | (go_simp; with_reducible rfl))
  (try simp only [Act.put, List.getElem_toArray, List.getElem_cons_zero, List.getElem_cons_succ, List.setIfInBounds_toArray, List.set_cons_zero, List.set_cons_succ])
  refine held_take (fun _ => trivial) (by kernel_rfl) (i := 23) (oi := _) (v := ?_) rfl (by kernel_rfl) (by kernel_rfl) (by kernel_rfl) (fun _ _ _ h => h) (by assumption) (Or.inl ⟨by kernel_rfl, ?_⟩) ?_
  rotate_left
  · intro wz hSw; (first | (go_simp; done) | (go_simp; with_reducible rfl))
  (try simp only [Act.put, List.getElem_toArray, List.getElem_cons_zero, List.getElem_cons_succ, List.setIfInBounds_toArray, List.set_cons_zero, List.set_cons_succ])
  refine held_done (by kernel_rfl) ?_ _
  refine hK14 _ _ ?_
  have HE := Lib.hid (bnext HB.out hHeld)
  clear hHeld
  go_wp2_with fail
  go_ret
  exact ⟨rfl, HE.out⟩
theorem wf_at {h l : Int} (wh : (Lit.int .i64 h).wf = true) (wl : (Lit.int .u64 l).wf = true) : ∃ n : Nat, l = (n : Int) ∧ At (h * 18446744073709551616 + l) h n := by
  obtain ⟨a, b⟩ := bounds_i64 wh
  obtain ⟨c, d⟩ := bounds_u64 wl
  refine ⟨l.toNat, by omega, ?_⟩
  unfold At
  omega
theorem exE {f : Nat} {args : Array Value} {z h g : Int} {l : Nat} {w : World} (H : Calls Try.prog f args w (RetE z w)) (hat : At (valE z) h l) (hg : errE z = g) :
    Calls Try.prog f args w fun e w' => e = .returned (.tuple #[.agg #[.int .i64 h, .int .u64 l], .int .i64 g]) ∧ Below w.heap.size w w' :=
  H.mono fun e w' ⟨a, b, he, ha, hb⟩ => ⟨by rw [he, (ha.uniq hat).1, (ha.uniq hat).2, hg], hb⟩
theorem exD {f : Nat} {args : Array Value} {z r s h : Int} {l : Nat} {w : World} (H : Calls Try.prog f args w (RetD z r s w)) (hat : At z h l) :
    Calls Try.prog f args w fun e w' => e = .returned (.tuple #[.agg #[.int .i64 h, .int .u64 l], .int .i64 r, .int .i64 s]) ∧ Below w.heap.size w w' :=
  H.mono fun e w' ⟨a, b, he, ha, hb⟩ => ⟨by rw [he, (ha.uniq hat).1, (ha.uniq hat).2], hb⟩
theorem valE_in (z : Int) : In (valE z) := by
  unfold valE
  split
  · assumption
  · unfold In; omega
theorem less_b {x y : Int} {b : Bool} (w : World) (h : x.natAbs + y.natAbs < BB) (hb : decide (x < y) = b) : Calls Try.prog 18 #[.agg (bv x), .agg (bv y)] w fun e w' => e = .returned (.bool b) ∧ Below w.heap.size w w' := by
  have := less_z x y w h
  rw [hb] at this
  exact this
theorem dv_small {x c : Int} (hc : c ≠ 0) : (dv x c).natAbs ≤ x.natAbs + 1 := by
  by_cases h : x < 0 ↔ c < 0
  · rw [(dv_like hc h).1, Int.natAbs_natCast]
    have := Nat.div_le_self x.natAbs c.natAbs
    omega
  · by_cases hr : x.natAbs % c.natAbs = 0
    · rw [((dv_unlike hc h).1 hr).1, Int.natAbs_neg, Int.natAbs_natCast]
      have := Nat.div_le_self x.natAbs c.natAbs
      omega
    · rw [((dv_unlike hc h).2 hr).1, Int.natAbs_neg, Int.natAbs_natCast]
      have := Nat.div_le_self x.natAbs c.natAbs
      omega
theorem e18' : (65536 : Nat) ^ 18 = 497323236409786642155382248146820840100456150797347717440463976893159497012533375533056 := by decide
theorem e9' : (65536 : Nat) ^ 9 = 22300745198530623141535718272648361505980416 := by decide
theorem eBB' : BB = 2135987035920910082395021706169552114602704522356652769947041607822219725780640550022962086936576 := by decide
theorem law_wideDivides (xh : Int) (wxh : (Lit.int .i64 xh).wf = true) (xl0 : Int) (wxl : (Lit.int .u64 xl0).wf = true) (a : Int) (wa : (Lit.int .i64 a).wf = true) (b : Int) (wb : (Lit.int .i64 b).wf = true) (c : Int) (wc : (Lit.int .i64 c).wf = true) (w : World) :
    Calls Try.prog 4 #[.agg #[.int .i64 xh, .int .u64 xl0], .int .i64 a, .int .i64 b, .int .i64 c] w fun e w' => e = .returned (.bool true) ∧ Below w.heap.size w w' := by
  obtain ⟨xl, hxl, ax⟩ := wf_at wxh wxl
  subst hxl
  obtain ⟨ha0, ha1⟩ := bounds_i64 wa
  obtain ⟨hb0, hb1⟩ := bounds_i64 wb
  obtain ⟨hc0, hc1⟩ := bounds_i64 wc
  obtain ⟨X, hX⟩ : ∃ X, xh * 18446744073709551616 + (xl : Int) = X := ⟨_, rfl⟩
  rw [hX] at ax
  have iX := ax.inn
  have nX : X.natAbs ≤ 170141183460469231731687303715884105728 := by unfold In at iX; omega
  have iP : In (a * b) := mul_in a b ha0 ha1 hb0 hb1
  have nP : (a * b).natAbs ≤ 170141183460469231731687303715884105728 := by unfold In at iP; omega
  have e63 : (2 : Int) ^ 63 = 9223372036854775808 := by decide
  have hB := eBB'
  have h18 := e18'
  have h9 := e9'
  have cF := Lib.hid fun w => from_z X xh xl w ax
  have cOc := Lib.hid fun w => of_z c w hc0 hc1
  by_cases hc : c = 0
  · subst hc
    exact divides_zero a b 0 X 0 0 0 0 0 0 0 xh 0 0 0 xl 0 w (Lib.hid fun w => exD (div_zero xh xl w) At.zero) cF cOc (Lib.hid fun w => zdiv_0 X w) (Lib.hid fun w => exE (cut_z 0 w (by decide)) (by rw [show valE 0 = 0 from if_pos (by unfold In; omega)]; exact At.zero) (if_pos (by unfold In; omega))) (Lib.hid fun w => muldiv_zero a b w ha0 ha1 hb0 hb1)
  · have nP2 := dv_small (x := X) hc
    have nM := dv_small (x := a * b) hc
    obtain ⟨qh, ql, aq⟩ := At.ex (valE_in (dv X c))
    have cD := Lib.hid fun w => zdiv_z X c w (by omega) hc (by omega)
    have cC := Lib.hid fun w => exE (cut_z (dv X c) w (by omega)) aq rfl
    have cWD := Lib.hid fun w => exD (wdiv_any X xh c xl w ax hc0 hc1 hc) aq
    have cWM := Lib.hid fun w => muldiv_any a b c w ha0 ha1 hb0 hb1 hc0 hc1 hc
    have cOa := Lib.hid fun w => of_z a w ha0 ha1
    have cOb := Lib.hid fun w => of_z b w hb0 hb1
    have cMu := Lib.hid fun w => mul_z a b w (by omega) (by omega)
    have cD2 := Lib.hid fun w => zdiv_z (a * b) c w (by omega) hc (by omega)
    have cTw := Lib.hid fun w => two_63 w
    have cNt := Lib.hid fun w => neg_z (2 ^ 63) w (by rw [e63]; omega)
    by_cases hin : In (dv X c)
    · have eg : errE (dv X c) = 0 := if_pos hin
      rw [eg] at cC
      rw [eg, if_pos hin] at cWD
      have hrs : -9223372036854775808 ≤ rs X c ∧ rs X c ≤ 9223372036854775807 := by
        have hm := Nat.mod_lt X.natAbs (show 0 < c.natAbs by omega)
        by_cases h : X < 0 ↔ c < 0
        · have := (dv_like hc h).2
          split at this <;> omega
        · by_cases hr : X.natAbs % c.natAbs = 0
          · have := ((dv_unlike hc h).1 hr).2
            omega
          · have := ((dv_unlike hc h).2 hr).2
            split at this <;> omega
      have cOr := Lib.hid fun w => of_z (rs X c) w hrs.1 hrs.2
      by_cases h1 : In64 (dv (a * b) c)
      · have g1 := h1
        unfold In64 at g1
        rw [if_pos h1, if_pos h1] at cWM
        exact divides_fit a b c X _ _ _ _ _ _ _ xh qh _ _ xl ql w cWD cF cOc cD cC cWM cOr cOa cOb cMu cD2 cTw cNt (Lib.hid fun w => less_b w (by rw [e63]; omega) (decide_eq_false (by rw [e63]; omega))) (Lib.hid fun w => less_b w (by rw [e63]; omega) (decide_eq_true (by rw [e63]; omega))) (Lib.hid fun w => of_z _ w (by omega) (by omega))
      · have g1 := h1
        unfold In64 at g1
        rw [if_neg h1, if_neg h1] at cWM
        by_cases h2 : dv (a * b) c < -9223372036854775808
        · exact divides_small a b c X _ _ _ _ _ _ _ xh qh _ xl ql w cWD cF cOc cD cC cWM cOr cOa cOb cMu cD2 cTw cNt (Lib.hid fun w => less_b w (by rw [e63]; omega) (decide_eq_true (by rw [e63]; omega)))
        · exact divides_big a b c X _ _ _ _ _ _ _ xh qh _ xl ql w cWD cF cOc cD cC cWM cOr cOa cOb cMu cD2 cTw cNt (Lib.hid fun w => less_b w (by rw [e63]; omega) (decide_eq_false (by rw [e63]; omega))) (Lib.hid fun w => less_b w (by rw [e63]; omega) (decide_eq_false (by rw [e63]; omega)))
    · have eg : errE (dv X c) = 20 := if_neg hin
      rw [eg] at cC
      rw [eg, if_neg hin] at cWD
      by_cases h1 : In64 (dv (a * b) c)
      · have g1 := h1
        unfold In64 at g1
        rw [if_pos h1, if_pos h1] at cWM
        exact divides_fit_no a b c X _ _ _ _ _ _ _ xh qh _ xl ql w cWD cF cOc cD cC cWM cOa cOb cMu cD2 cTw cNt (Lib.hid fun w => less_b w (by rw [e63]; omega) (decide_eq_false (by rw [e63]; omega))) (Lib.hid fun w => less_b w (by rw [e63]; omega) (decide_eq_true (by rw [e63]; omega))) (Lib.hid fun w => of_z _ w (by omega) (by omega))
      · have g1 := h1
        unfold In64 at g1
        rw [if_neg h1, if_neg h1] at cWM
        by_cases h2 : dv (a * b) c < -9223372036854775808
        · exact divides_small_no a b c X _ _ _ _ _ _ _ xh qh xl ql w cWD cF cOc cD cC cWM cOa cOb cMu cD2 cTw cNt (Lib.hid fun w => less_b w (by rw [e63]; omega) (decide_eq_true (by rw [e63]; omega)))
        · exact divides_big_no a b c X _ _ _ _ _ _ _ xh qh xl ql w cWD cF cOc cD cC cWM cOa cOb cMu cD2 cTw cNt (Lib.hid fun w => less_b w (by rw [e63]; omega) (decide_eq_false (by rw [e63]; omega))) (Lib.hid fun w => less_b w (by rw [e63]; omega) (decide_eq_false (by rw [e63]; omega)))
end Go.Proofs.Ytgkcbadfjhicnaa.Fx
