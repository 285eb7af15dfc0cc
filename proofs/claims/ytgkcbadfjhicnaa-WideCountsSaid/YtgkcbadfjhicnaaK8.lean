/- WideCounts, walked. -/
import Derived.Test.YtgkcbadfjhicnaaProg
import Derived.Test.YtgkcbadfjhicnaaK5
import Derived.Test.YtgkcbadfjhicnaaW4
import Derived.Test.YtgkcbadfjhicnaaW5
import Derived.Test.YtgkcbadfjhicnaaW3
set_option linter.unusedVariables false
set_option linter.unusedSimpArgs false
namespace Go.Proofs.Ytgkcbadfjhicnaa.Fx
open Go Go.RowKit Wm
set_option maxRecDepth 100000 in
set_option maxHeartbeats 4000000 in
theorem counts_small (a b X Y p s n d t nt xh yh mh nh sh uh vh se ue c sg : Int) (xl yl ml nl sl ul vl : Nat) (b1 b2 : Bool) (w : World)
    (cF1 : Hid (Ans 9 #[.agg #[.int .i64 xh, .int .u64 xl]] (.agg (bv X))))
    (cF2 : Hid (Ans 9 #[.agg #[.int .i64 yh, .int .u64 yl]] (.agg (bv Y))))
    (cOa : Hid (Ans 12 #[.int .i64 a] (.agg (bv a))))
    (cOb : Hid (Ans 12 #[.int .i64 b] (.agg (bv b))))
    (cMu : Hid (Ans 11 #[.agg (bv a), .agg (bv b)] (.agg (bv p))))
    (cT1 : Hid (Ans 10 #[.agg (bv p)] (.tuple #[.agg #[.int .i64 mh, .int .u64 ml], .bool true])))
    (cT2 : Hid (Ans 10 #[.agg (bv a)] (.tuple #[.agg #[.int .i64 nh, .int .u64 nl], .bool true])))
    (cWA : Hid (Ans 13 #[.agg #[.int .i64 xh, .int .u64 xl], .agg #[.int .i64 yh, .int .u64 yl]] (.tuple #[.agg #[.int .i64 sh, .int .u64 sl], .int .i64 se])))
    (cA1 : Hid (Ans 15 #[.agg (bv X), .agg (bv Y)] (.agg (bv s))))
    (cC1 : Hid (Ans 14 #[.agg (bv s)] (.tuple #[.agg #[.int .i64 sh, .int .u64 sl], .int .i64 se])))
    (cWS : Hid (Ans 16 #[.agg #[.int .i64 xh, .int .u64 xl], .agg #[.int .i64 yh, .int .u64 yl]] (.tuple #[.agg #[.int .i64 uh, .int .u64 ul], .int .i64 ue])))
    (cN : Hid (Ans 17 #[.agg (bv Y)] (.agg (bv n))))
    (cA2 : Hid (Ans 15 #[.agg (bv X), .agg (bv n)] (.agg (bv d))))
    (cC2 : Hid (Ans 14 #[.agg (bv d)] (.tuple #[.agg #[.int .i64 uh, .int .u64 ul], .int .i64 ue])))
    (cL1 : Hid (Ans 18 #[.agg (bv X), .agg (bv Y)] (.bool b1)))
    (cL2 : Hid (Ans 18 #[.agg (bv Y), .agg (bv X)] (.bool b2)))
    (cWI : Hid (Ans 19 #[.agg #[.int .i64 xh, .int .u64 xl]] (.tuple #[.int .i64 0, .int .i64 20])))
    (cOk : Hid (Ans 12 #[.int .i64 0] (.agg (bv 0))))
    (cT3 : Hid (Ans 10 #[.agg (bv 0)] (.tuple #[.agg #[.int .i64 vh, .int .u64 vl], .bool true])))
    (cTw : Hid (Ans 20 #[.int .i64 63] (.agg (bv t))))
    (cNt : Hid (Ans 17 #[.agg (bv t)] (.agg (bv nt))))
    (cL3 : Hid (Ans 18 #[.agg (bv X), .agg (bv nt)] (.bool true)))
    (cWM : Hid (Ans 21 #[.int .i64 a, .int .i64 b] (.agg #[.int .i64 mh, .int .u64 ml])))
    (cWO : Hid (Ans 22 #[.int .i64 a] (.agg #[.int .i64 nh, .int .u64 nl])))
    (cWC : Hid (Ans 23 #[.agg #[.int .i64 xh, .int .u64 xl], .agg #[.int .i64 yh, .int .u64 yl]] (.int .i64 c)))
    (cWG : Hid (Ans 24 #[.agg #[.int .i64 xh, .int .u64 xl]] (.int .i64 sg)))
    (cWZ : Hid (Ans 23 #[.agg #[.int .i64 xh, .int .u64 xl], .agg #[.int .i64 0, .int .u64 0]] (.int .i64 sg)))
    (hc : Hid (c = if b2 = true then 1 else if b1 = true then -1 else 0))
    : Calls Try.prog 3 #[.int .i64 a, .int .i64 b, .agg #[.int .i64 xh, .int .u64 xl], .agg #[.int .i64 yh, .int .u64 yl]] w fun e w' => e = .returned (.bool true) ∧ Below w.heap.size w w' := by
  have Rx : Hid (WideAt w.heap.size xh xl ((w.alloc (.cells #[.int .i64 xh, .int .u64 xl] 24)).alloc (.cells #[.int .i64 yh, .int .u64 yl] 24))) := Lib.hid (step_row (heap_alloc_new _ _))
  have Ry : Hid (WideAt (w.heap.size + 1) yh yl ((w.alloc (.cells #[.int .i64 xh, .int .u64 xl] 24)).alloc (.cells #[.int .i64 yh, .int .u64 yl] 24))) := Lib.hid (heap_alloc2_new _ _ _)
  have HB : Hid (Below w.heap.size w ((w.alloc (.cells #[.int .i64 xh, .int .u64 xl] 24)).alloc (.cells #[.int .i64 yh, .int .u64 yl] 24))) := Lib.hid (by go_grown)
  go_enter Try.func3, Try.ntmps3
  go_wp2_with (refine wpList_load_row rfl 24 (.tmp 6) rfl (w.heap.size) rfl _ _ _ _ Rx.out Try.underlying24 rfl (by kernel_rfl) ?_)
  refine (cF1.out _).mono ?_
  rintro e w1 ⟨rfl, hb1⟩
  have B1 := bnext HB.out hb1
  have HBn : Hid (Below w.heap.size w (w1.alloc (.cells (bv X) 27))) := Lib.hid (B1.alloc B1.size _)
  clear HB
  have HB := HBn
  clear HBn
  replace Rx : Hid (WideAt (w.heap.size) xh xl (w1.alloc (.cells (bv X) 27))) := Lib.hid (step_row (WideAt.below hb1 Rx.out))
  replace Ry : Hid (WideAt (w.heap.size + 1) yh yl (w1.alloc (.cells (bv X) 27))) := Lib.hid (step_row (WideAt.below hb1 Ry.out))
  have RP : Hid (BigAt (w1.heap.size) X (w1.alloc (.cells (bv X) 27))) := Lib.hid (heap_alloc_new _ _)
  clear hb1 B1
  go_wp2_with (first | (refine wpList_store_new rfl 27 (.tmp 9) (.tmp 30) rfl (w1.heap.size) _ _ (bv X) rfl rfl rfl (bv_info _) (bv_same 0 _) (bv_one _) ?_) | (refine wpList_load_row rfl 24 (.tmp 7) rfl (w.heap.size + 1) rfl _ _ _ _ Ry.out Try.underlying24 rfl (by kernel_rfl) ?_))
  refine (cF2.out _).mono ?_
  rintro e w2 ⟨rfl, hb2⟩
  have B2 := bnext HB.out hb2
  have HBn : Hid (Below w.heap.size w (w2.alloc (.cells (bv Y) 27))) := Lib.hid (B2.alloc B2.size _)
  clear HB
  have HB := HBn
  clear HBn
  replace Rx : Hid (WideAt (w.heap.size) xh xl (w2.alloc (.cells (bv Y) 27))) := Lib.hid (step_row (WideAt.below hb2 Rx.out))
  replace Ry : Hid (WideAt (w.heap.size + 1) yh yl (w2.alloc (.cells (bv Y) 27))) := Lib.hid (step_row (WideAt.below hb2 Ry.out))
  replace RP : Hid (BigAt (w1.heap.size) X (w2.alloc (.cells (bv Y) 27))) := Lib.hid (step_row (BigAt.below hb2 RP.out))
  have RQ : Hid (BigAt (w2.heap.size) Y (w2.alloc (.cells (bv Y) 27))) := Lib.hid (heap_alloc_new _ _)
  clear hb2 B2
  go_wp2_with (refine wpList_store_new rfl 27 (.tmp 10) (.tmp 32) rfl (w2.heap.size) _ _ (bv Y) rfl rfl rfl (bv_info _) (bv_same 0 _) (bv_one _) ?_)
  refine (cOa.out _).mono ?_
  rintro e w3 ⟨rfl, hb3⟩
  have B3 := bnext HB.out hb3
  have HBn : Hid (Below w.heap.size w w3) := Lib.hid B3
  clear HB
  have HB := HBn
  clear HBn
  replace Rx : Hid (WideAt (w.heap.size) xh xl w3) := Lib.hid (WideAt.below hb3 Rx.out)
  replace Ry : Hid (WideAt (w.heap.size + 1) yh yl w3) := Lib.hid (WideAt.below hb3 Ry.out)
  replace RP : Hid (BigAt (w1.heap.size) X w3) := Lib.hid (BigAt.below hb3 RP.out)
  replace RQ : Hid (BigAt (w2.heap.size) Y w3) := Lib.hid (BigAt.below hb3 RQ.out)
  clear hb3 B3
  go_wp2_with fail
  refine (cOb.out _).mono ?_
  rintro e w4 ⟨rfl, hb4⟩
  have B4 := bnext HB.out hb4
  have HBn : Hid (Below w.heap.size w w4) := Lib.hid B4
  clear HB
  have HB := HBn
  clear HBn
  replace Rx : Hid (WideAt (w.heap.size) xh xl w4) := Lib.hid (WideAt.below hb4 Rx.out)
  replace Ry : Hid (WideAt (w.heap.size + 1) yh yl w4) := Lib.hid (WideAt.below hb4 Ry.out)
  replace RP : Hid (BigAt (w1.heap.size) X w4) := Lib.hid (BigAt.below hb4 RP.out)
  replace RQ : Hid (BigAt (w2.heap.size) Y w4) := Lib.hid (BigAt.below hb4 RQ.out)
  clear hb4 B4
  go_wp2_with fail
  refine (cMu.out _).mono ?_
  rintro e w5 ⟨rfl, hb5⟩
  have B5 := bnext HB.out hb5
  have HBn : Hid (Below w.heap.size w w5) := Lib.hid B5
  clear HB
  have HB := HBn
  clear HBn
  replace Rx : Hid (WideAt (w.heap.size) xh xl w5) := Lib.hid (WideAt.below hb5 Rx.out)
  replace Ry : Hid (WideAt (w.heap.size + 1) yh yl w5) := Lib.hid (WideAt.below hb5 Ry.out)
  replace RP : Hid (BigAt (w1.heap.size) X w5) := Lib.hid (BigAt.below hb5 RP.out)
  replace RQ : Hid (BigAt (w2.heap.size) Y w5) := Lib.hid (BigAt.below hb5 RQ.out)
  clear hb5 B5
  go_wp2_with fail
  refine (cT1.out _).mono ?_
  rintro e w6 ⟨rfl, hb6⟩
  have B6 := bnext HB.out hb6
  have HBn : Hid (Below w.heap.size w (w6.alloc (.cells #[.int .i64 mh, .int .u64 ml] 24))) := Lib.hid (B6.alloc B6.size _)
  clear HB
  have HB := HBn
  clear HBn
  replace Rx : Hid (WideAt (w.heap.size) xh xl (w6.alloc (.cells #[.int .i64 mh, .int .u64 ml] 24))) := Lib.hid (step_row (WideAt.below hb6 Rx.out))
  replace Ry : Hid (WideAt (w.heap.size + 1) yh yl (w6.alloc (.cells #[.int .i64 mh, .int .u64 ml] 24))) := Lib.hid (step_row (WideAt.below hb6 Ry.out))
  replace RP : Hid (BigAt (w1.heap.size) X (w6.alloc (.cells #[.int .i64 mh, .int .u64 ml] 24))) := Lib.hid (step_row (BigAt.below hb6 RP.out))
  replace RQ : Hid (BigAt (w2.heap.size) Y (w6.alloc (.cells #[.int .i64 mh, .int .u64 ml] 24))) := Lib.hid (step_row (BigAt.below hb6 RQ.out))
  have RM : Hid (WideAt (w6.heap.size) mh ml (w6.alloc (.cells #[.int .i64 mh, .int .u64 ml] 24))) := Lib.hid (heap_alloc_new _ _)
  clear hb6 B6
  go_wp2_with fail
  refine (cOa.out _).mono ?_
  rintro e w7 ⟨rfl, hb7⟩
  have B7 := bnext HB.out hb7
  have HBn : Hid (Below w.heap.size w w7) := Lib.hid B7
  clear HB
  have HB := HBn
  clear HBn
  replace Rx : Hid (WideAt (w.heap.size) xh xl w7) := Lib.hid (WideAt.below hb7 Rx.out)
  replace Ry : Hid (WideAt (w.heap.size + 1) yh yl w7) := Lib.hid (WideAt.below hb7 Ry.out)
  replace RP : Hid (BigAt (w1.heap.size) X w7) := Lib.hid (BigAt.below hb7 RP.out)
  replace RQ : Hid (BigAt (w2.heap.size) Y w7) := Lib.hid (BigAt.below hb7 RQ.out)
  replace RM : Hid (WideAt (w6.heap.size) mh ml w7) := Lib.hid (WideAt.below hb7 RM.out)
  clear hb7 B7
  go_wp2_with fail
  refine (cT2.out _).mono ?_
  rintro e w8 ⟨rfl, hb8⟩
  have B8 := bnext HB.out hb8
  have HBn : Hid (Below w.heap.size w (w8.alloc (.cells #[.int .i64 nh, .int .u64 nl] 24))) := Lib.hid (B8.alloc B8.size _)
  clear HB
  have HB := HBn
  clear HBn
  replace Rx : Hid (WideAt (w.heap.size) xh xl (w8.alloc (.cells #[.int .i64 nh, .int .u64 nl] 24))) := Lib.hid (step_row (WideAt.below hb8 Rx.out))
  replace Ry : Hid (WideAt (w.heap.size + 1) yh yl (w8.alloc (.cells #[.int .i64 nh, .int .u64 nl] 24))) := Lib.hid (step_row (WideAt.below hb8 Ry.out))
  replace RP : Hid (BigAt (w1.heap.size) X (w8.alloc (.cells #[.int .i64 nh, .int .u64 nl] 24))) := Lib.hid (step_row (BigAt.below hb8 RP.out))
  replace RQ : Hid (BigAt (w2.heap.size) Y (w8.alloc (.cells #[.int .i64 nh, .int .u64 nl] 24))) := Lib.hid (step_row (BigAt.below hb8 RQ.out))
  replace RM : Hid (WideAt (w6.heap.size) mh ml (w8.alloc (.cells #[.int .i64 nh, .int .u64 nl] 24))) := Lib.hid (step_row (WideAt.below hb8 RM.out))
  have RN : Hid (WideAt (w8.heap.size) nh nl (w8.alloc (.cells #[.int .i64 nh, .int .u64 nl] 24))) := Lib.hid (heap_alloc_new _ _)
  clear hb8 B8
  go_wp2_with (first | (refine wpList_load_row rfl 24 (.tmp 6) rfl (w.heap.size) rfl _ _ _ _ Rx.out Try.underlying24 rfl (by kernel_rfl) ?_) | (refine wpList_load_row rfl 24 (.tmp 7) rfl (w.heap.size + 1) rfl _ _ _ _ Ry.out Try.underlying24 rfl (by kernel_rfl) ?_))
  refine (cWA.out _).mono ?_
  rintro e w9 ⟨rfl, hb9⟩
  have B9 := bnext HB.out hb9
  have HBn : Hid (Below w.heap.size w (w9.alloc (.cells #[.int .i64 sh, .int .u64 sl] 24))) := Lib.hid (B9.alloc B9.size _)
  clear HB
  have HB := HBn
  clear HBn
  replace Rx : Hid (WideAt (w.heap.size) xh xl (w9.alloc (.cells #[.int .i64 sh, .int .u64 sl] 24))) := Lib.hid (step_row (WideAt.below hb9 Rx.out))
  replace Ry : Hid (WideAt (w.heap.size + 1) yh yl (w9.alloc (.cells #[.int .i64 sh, .int .u64 sl] 24))) := Lib.hid (step_row (WideAt.below hb9 Ry.out))
  replace RP : Hid (BigAt (w1.heap.size) X (w9.alloc (.cells #[.int .i64 sh, .int .u64 sl] 24))) := Lib.hid (step_row (BigAt.below hb9 RP.out))
  replace RQ : Hid (BigAt (w2.heap.size) Y (w9.alloc (.cells #[.int .i64 sh, .int .u64 sl] 24))) := Lib.hid (step_row (BigAt.below hb9 RQ.out))
  replace RM : Hid (WideAt (w6.heap.size) mh ml (w9.alloc (.cells #[.int .i64 sh, .int .u64 sl] 24))) := Lib.hid (step_row (WideAt.below hb9 RM.out))
  replace RN : Hid (WideAt (w8.heap.size) nh nl (w9.alloc (.cells #[.int .i64 sh, .int .u64 sl] 24))) := Lib.hid (step_row (WideAt.below hb9 RN.out))
  have RS : Hid (WideAt (w9.heap.size) sh sl (w9.alloc (.cells #[.int .i64 sh, .int .u64 sl] 24))) := Lib.hid (heap_alloc_new _ _)
  clear hb9 B9
  go_wp2_with (first | (refine wpList_load_row rfl 27 (.tmp 9) rfl (w1.heap.size) rfl _ _ _ _ RP.out Try.underlying27 rfl (bv_info _) ?_) | (refine wpList_load_row rfl 27 (.tmp 10) rfl (w2.heap.size) rfl _ _ _ _ RQ.out Try.underlying27 rfl (bv_info _) ?_))
  refine (cA1.out _).mono ?_
  rintro e w10 ⟨rfl, hb10⟩
  have B10 := bnext HB.out hb10
  have HBn : Hid (Below w.heap.size w w10) := Lib.hid B10
  clear HB
  have HB := HBn
  clear HBn
  replace Rx : Hid (WideAt (w.heap.size) xh xl w10) := Lib.hid (WideAt.below hb10 Rx.out)
  replace Ry : Hid (WideAt (w.heap.size + 1) yh yl w10) := Lib.hid (WideAt.below hb10 Ry.out)
  replace RP : Hid (BigAt (w1.heap.size) X w10) := Lib.hid (BigAt.below hb10 RP.out)
  replace RQ : Hid (BigAt (w2.heap.size) Y w10) := Lib.hid (BigAt.below hb10 RQ.out)
  replace RM : Hid (WideAt (w6.heap.size) mh ml w10) := Lib.hid (WideAt.below hb10 RM.out)
  replace RN : Hid (WideAt (w8.heap.size) nh nl w10) := Lib.hid (WideAt.below hb10 RN.out)
  replace RS : Hid (WideAt (w9.heap.size) sh sl w10) := Lib.hid (WideAt.below hb10 RS.out)
  clear hb10 B10
  go_wp2_with fail
  refine (cC1.out _).mono ?_
  rintro e w11 ⟨rfl, hb11⟩
  have B11 := bnext HB.out hb11
  have HBn : Hid (Below w.heap.size w (w11.alloc (.cells #[.int .i64 sh, .int .u64 sl] 24))) := Lib.hid (B11.alloc B11.size _)
  clear HB
  have HB := HBn
  clear HBn
  replace Rx : Hid (WideAt (w.heap.size) xh xl (w11.alloc (.cells #[.int .i64 sh, .int .u64 sl] 24))) := Lib.hid (step_row (WideAt.below hb11 Rx.out))
  replace Ry : Hid (WideAt (w.heap.size + 1) yh yl (w11.alloc (.cells #[.int .i64 sh, .int .u64 sl] 24))) := Lib.hid (step_row (WideAt.below hb11 Ry.out))
  replace RP : Hid (BigAt (w1.heap.size) X (w11.alloc (.cells #[.int .i64 sh, .int .u64 sl] 24))) := Lib.hid (step_row (BigAt.below hb11 RP.out))
  replace RQ : Hid (BigAt (w2.heap.size) Y (w11.alloc (.cells #[.int .i64 sh, .int .u64 sl] 24))) := Lib.hid (step_row (BigAt.below hb11 RQ.out))
  replace RM : Hid (WideAt (w6.heap.size) mh ml (w11.alloc (.cells #[.int .i64 sh, .int .u64 sl] 24))) := Lib.hid (step_row (WideAt.below hb11 RM.out))
  replace RN : Hid (WideAt (w8.heap.size) nh nl (w11.alloc (.cells #[.int .i64 sh, .int .u64 sl] 24))) := Lib.hid (step_row (WideAt.below hb11 RN.out))
  replace RS : Hid (WideAt (w9.heap.size) sh sl (w11.alloc (.cells #[.int .i64 sh, .int .u64 sl] 24))) := Lib.hid (step_row (WideAt.below hb11 RS.out))
  have RZ : Hid (WideAt (w11.heap.size) sh sl (w11.alloc (.cells #[.int .i64 sh, .int .u64 sl] 24))) := Lib.hid (heap_alloc_new _ _)
  clear hb11 B11
  go_wp2_with (first | (refine wpList_load_row rfl 24 (.tmp 6) rfl (w.heap.size) rfl _ _ _ _ Rx.out Try.underlying24 rfl (by kernel_rfl) ?_) | (refine wpList_load_row rfl 24 (.tmp 7) rfl (w.heap.size + 1) rfl _ _ _ _ Ry.out Try.underlying24 rfl (by kernel_rfl) ?_))
  refine (cWS.out _).mono ?_
  rintro e w12 ⟨rfl, hb12⟩
  have B12 := bnext HB.out hb12
  have HBn : Hid (Below w.heap.size w (w12.alloc (.cells #[.int .i64 uh, .int .u64 ul] 24))) := Lib.hid (B12.alloc B12.size _)
  clear HB
  have HB := HBn
  clear HBn
  replace Rx : Hid (WideAt (w.heap.size) xh xl (w12.alloc (.cells #[.int .i64 uh, .int .u64 ul] 24))) := Lib.hid (step_row (WideAt.below hb12 Rx.out))
  replace Ry : Hid (WideAt (w.heap.size + 1) yh yl (w12.alloc (.cells #[.int .i64 uh, .int .u64 ul] 24))) := Lib.hid (step_row (WideAt.below hb12 Ry.out))
  replace RP : Hid (BigAt (w1.heap.size) X (w12.alloc (.cells #[.int .i64 uh, .int .u64 ul] 24))) := Lib.hid (step_row (BigAt.below hb12 RP.out))
  replace RQ : Hid (BigAt (w2.heap.size) Y (w12.alloc (.cells #[.int .i64 uh, .int .u64 ul] 24))) := Lib.hid (step_row (BigAt.below hb12 RQ.out))
  replace RM : Hid (WideAt (w6.heap.size) mh ml (w12.alloc (.cells #[.int .i64 uh, .int .u64 ul] 24))) := Lib.hid (step_row (WideAt.below hb12 RM.out))
  replace RN : Hid (WideAt (w8.heap.size) nh nl (w12.alloc (.cells #[.int .i64 uh, .int .u64 ul] 24))) := Lib.hid (step_row (WideAt.below hb12 RN.out))
  replace RS : Hid (WideAt (w9.heap.size) sh sl (w12.alloc (.cells #[.int .i64 uh, .int .u64 ul] 24))) := Lib.hid (step_row (WideAt.below hb12 RS.out))
  replace RZ : Hid (WideAt (w11.heap.size) sh sl (w12.alloc (.cells #[.int .i64 uh, .int .u64 ul] 24))) := Lib.hid (step_row (WideAt.below hb12 RZ.out))
  have RU : Hid (WideAt (w12.heap.size) uh ul (w12.alloc (.cells #[.int .i64 uh, .int .u64 ul] 24))) := Lib.hid (heap_alloc_new _ _)
  clear hb12 B12
  go_wp2_with fail
  generalize (w12.alloc (.cells #[.int .i64 uh, .int .u64 ul] 24)) = V at Rx Ry RP RQ RM RN RS RZ RU HB ⊢
  rename_i K8 hK8
  have HT8 : ∀ (Bq : Nat) (Wf : World), WideAt Bq uh ul Wf → Below V.heap.size V Wf → K8 { tmps := #[.int .i64 a, .int .i64 b, .agg #[.int .i64 xh, .int .u64 xl], .agg #[.int .i64 yh, .int .u64 yl], undef, undef, .pointer (some ⟨w.heap.size, 0, none⟩), .pointer (some ⟨w.heap.size + 1, 0, none⟩), .bool false, .pointer (some ⟨w1.heap.size, 0, none⟩), .pointer (some ⟨w2.heap.size, 0, none⟩), .pointer (some ⟨w6.heap.size, 0, none⟩), .bool true, .pointer (some ⟨w8.heap.size, 0, none⟩), .bool true, .pointer (some ⟨w9.heap.size, 0, none⟩), .int .i64 se, .pointer (some ⟨w11.heap.size, 0, none⟩), .int .i64 se, .pointer (some ⟨w12.heap.size, 0, none⟩), .int .i64 ue, .pointer (some ⟨Bq, 0, none⟩), .int .i64 ue, undef, undef, undef, undef, undef, undef, .agg #[.int .i64 xh, .int .u64 xl], .agg (bv X), .agg #[.int .i64 yh, .int .u64 yl], .agg (bv Y), .tuple #[.agg #[.int .i64 mh, .int .u64 ml], .bool true], .int .i64 a, .agg (bv a), .int .i64 b, .agg (bv b), .agg (bv p), .tuple #[.agg #[.int .i64 mh, .int .u64 ml], .bool true], .agg #[.int .i64 mh, .int .u64 ml], .bool true, .tuple #[.agg #[.int .i64 nh, .int .u64 nl], .bool true], .int .i64 a, .agg (bv a), .tuple #[.agg #[.int .i64 nh, .int .u64 nl], .bool true], .agg #[.int .i64 nh, .int .u64 nl], .bool true, .tuple #[.agg #[.int .i64 sh, .int .u64 sl], .int .i64 se], .agg #[.int .i64 xh, .int .u64 xl], .agg #[.int .i64 yh, .int .u64 yl], .tuple #[.agg #[.int .i64 sh, .int .u64 sl], .int .i64 se], .agg #[.int .i64 sh, .int .u64 sl], .int .i64 se, .tuple #[.agg #[.int .i64 sh, .int .u64 sl], .int .i64 se], .agg (bv X), .agg (bv Y), .agg (bv s), .tuple #[.agg #[.int .i64 sh, .int .u64 sl], .int .i64 se], .agg #[.int .i64 sh, .int .u64 sl], .int .i64 se, .tuple #[.agg #[.int .i64 uh, .int .u64 ul], .int .i64 ue], .agg #[.int .i64 xh, .int .u64 xl], .agg #[.int .i64 yh, .int .u64 yl], .tuple #[.agg #[.int .i64 uh, .int .u64 ul], .int .i64 ue], .agg #[.int .i64 uh, .int .u64 ul], .int .i64 ue, .tuple #[.agg #[.int .i64 uh, .int .u64 ul], .int .i64 ue], .agg (bv X), .agg (bv Y), .agg (bv n), .agg (bv d), .tuple #[.agg #[.int .i64 uh, .int .u64 ul], .int .i64 ue], .agg #[.int .i64 uh, .int .u64 ul], .int .i64 ue, undef, undef, undef, undef, undef, undef, undef, undef, undef, undef, undef, undef, undef, undef, undef, undef, undef, undef, undef, undef, undef, undef, undef, undef, undef, undef, undef, undef, undef, undef, undef, undef, undef, undef, undef, undef, undef, undef, undef, undef, undef, undef, undef, undef, undef, undef, undef, undef, undef, undef, undef, undef, undef, undef, undef, undef, undef, undef, undef, undef, undef, undef, undef, undef, undef, undef, undef, undef, undef, undef, undef, undef, undef, undef, undef, undef, undef, undef, undef, undef, undef, undef, undef, undef, undef, undef, undef, undef, undef, undef, undef, undef, undef, undef, undef, undef, undef, undef, undef], defers := [] } Wf := by
    intro Bq Wf hq hb
    refine hK8 _ _ ?_
    replace Rx : Hid (WideAt (w.heap.size) xh xl Wf) := Lib.hid (WideAt.below hb Rx.out)
    replace Ry : Hid (WideAt (w.heap.size + 1) yh yl Wf) := Lib.hid (WideAt.below hb Ry.out)
    replace RP : Hid (BigAt (w1.heap.size) X Wf) := Lib.hid (BigAt.below hb RP.out)
    replace RQ : Hid (BigAt (w2.heap.size) Y Wf) := Lib.hid (BigAt.below hb RQ.out)
    replace RM : Hid (WideAt (w6.heap.size) mh ml Wf) := Lib.hid (WideAt.below hb RM.out)
    replace RN : Hid (WideAt (w8.heap.size) nh nl Wf) := Lib.hid (WideAt.below hb RN.out)
    replace RS : Hid (WideAt (w9.heap.size) sh sl Wf) := Lib.hid (WideAt.below hb RS.out)
    replace RZ : Hid (WideAt (w11.heap.size) sh sl Wf) := Lib.hid (WideAt.below hb RZ.out)
    replace RU : Hid (WideAt (w12.heap.size) uh ul Wf) := Lib.hid (WideAt.below hb RU.out)
    have RD : Hid (WideAt (Bq) uh ul Wf) := Lib.hid hq
    replace HB : Hid (Below w.heap.size w Wf) := Lib.hid (bnext HB.out hb)
    clear hK8 hq hb
    go_wp2_with (first | (refine wpList_load_row rfl 27 (.tmp 9) rfl (w1.heap.size) rfl _ _ _ _ RP.out Try.underlying27 rfl (bv_info _) ?_) | (refine wpList_load_row rfl 27 (.tmp 10) rfl (w2.heap.size) rfl _ _ _ _ RQ.out Try.underlying27 rfl (bv_info _) ?_))
    rename_i Ka hKa Kb hKb Kc hKc
    have HA : ∀ (c1 : Int) (Wa : World), Hid (c1 = if b1 = true then -1 else 0) → Below Wf.heap.size Wf Wa → Ka { tmps := #[.int .i64 a, .int .i64 b, .agg #[.int .i64 xh, .int .u64 xl], .agg #[.int .i64 yh, .int .u64 yl], undef, undef, .pointer (some ⟨w.heap.size, 0, none⟩), .pointer (some ⟨w.heap.size + 1, 0, none⟩), .bool false, .pointer (some ⟨w1.heap.size, 0, none⟩), .pointer (some ⟨w2.heap.size, 0, none⟩), .pointer (some ⟨w6.heap.size, 0, none⟩), .bool true, .pointer (some ⟨w8.heap.size, 0, none⟩), .bool true, .pointer (some ⟨w9.heap.size, 0, none⟩), .int .i64 se, .pointer (some ⟨w11.heap.size, 0, none⟩), .int .i64 se, .pointer (some ⟨w12.heap.size, 0, none⟩), .int .i64 ue, .pointer (some ⟨Bq, 0, none⟩), .int .i64 ue, .int .i64 c1, undef, undef, undef, undef, undef, .agg #[.int .i64 xh, .int .u64 xl], .agg (bv X), .agg #[.int .i64 yh, .int .u64 yl], .agg (bv Y), .tuple #[.agg #[.int .i64 mh, .int .u64 ml], .bool true], .int .i64 a, .agg (bv a), .int .i64 b, .agg (bv b), .agg (bv p), .tuple #[.agg #[.int .i64 mh, .int .u64 ml], .bool true], .agg #[.int .i64 mh, .int .u64 ml], .bool true, .tuple #[.agg #[.int .i64 nh, .int .u64 nl], .bool true], .int .i64 a, .agg (bv a), .tuple #[.agg #[.int .i64 nh, .int .u64 nl], .bool true], .agg #[.int .i64 nh, .int .u64 nl], .bool true, .tuple #[.agg #[.int .i64 sh, .int .u64 sl], .int .i64 se], .agg #[.int .i64 xh, .int .u64 xl], .agg #[.int .i64 yh, .int .u64 yl], .tuple #[.agg #[.int .i64 sh, .int .u64 sl], .int .i64 se], .agg #[.int .i64 sh, .int .u64 sl], .int .i64 se, .tuple #[.agg #[.int .i64 sh, .int .u64 sl], .int .i64 se], .agg (bv X), .agg (bv Y), .agg (bv s), .tuple #[.agg #[.int .i64 sh, .int .u64 sl], .int .i64 se], .agg #[.int .i64 sh, .int .u64 sl], .int .i64 se, .tuple #[.agg #[.int .i64 uh, .int .u64 ul], .int .i64 ue], .agg #[.int .i64 xh, .int .u64 xl], .agg #[.int .i64 yh, .int .u64 yl], .tuple #[.agg #[.int .i64 uh, .int .u64 ul], .int .i64 ue], .agg #[.int .i64 uh, .int .u64 ul], .int .i64 ue, .tuple #[.agg #[.int .i64 uh, .int .u64 ul], .int .i64 ue], .agg (bv X), .agg (bv Y), .agg (bv n), .agg (bv d), .tuple #[.agg #[.int .i64 uh, .int .u64 ul], .int .i64 ue], .agg #[.int .i64 uh, .int .u64 ul], .int .i64 ue, .agg (bv X), .agg (bv Y), .bool b1, undef, undef, undef, undef, undef, undef, undef, undef, undef, undef, undef, undef, undef, undef, undef, undef, undef, undef, undef, undef, undef, undef, undef, undef, undef, undef, undef, undef, undef, undef, undef, undef, undef, undef, undef, undef, undef, undef, undef, undef, undef, undef, undef, undef, undef, undef, undef, undef, undef, undef, undef, undef, undef, undef, undef, undef, undef, undef, undef, undef, undef, undef, undef, undef, undef, undef, undef, undef, undef, undef, undef, undef, undef, undef, undef, undef, undef, undef, undef, undef, undef, undef, undef, undef, undef, undef, undef, undef, undef, undef, undef, undef, undef, undef, undef, undef], defers := [] } Wa := by
      intro c1 Wa hc1 hb
      refine hKa _ _ ?_
      replace Rx : Hid (WideAt (w.heap.size) xh xl Wa) := Lib.hid (WideAt.below hb Rx.out)
      replace Ry : Hid (WideAt (w.heap.size + 1) yh yl Wa) := Lib.hid (WideAt.below hb Ry.out)
      replace RP : Hid (BigAt (w1.heap.size) X Wa) := Lib.hid (BigAt.below hb RP.out)
      replace RQ : Hid (BigAt (w2.heap.size) Y Wa) := Lib.hid (BigAt.below hb RQ.out)
      replace RM : Hid (WideAt (w6.heap.size) mh ml Wa) := Lib.hid (WideAt.below hb RM.out)
      replace RN : Hid (WideAt (w8.heap.size) nh nl Wa) := Lib.hid (WideAt.below hb RN.out)
      replace RS : Hid (WideAt (w9.heap.size) sh sl Wa) := Lib.hid (WideAt.below hb RS.out)
      replace RZ : Hid (WideAt (w11.heap.size) sh sl Wa) := Lib.hid (WideAt.below hb RZ.out)
      replace RU : Hid (WideAt (w12.heap.size) uh ul Wa) := Lib.hid (WideAt.below hb RU.out)
      replace RD : Hid (WideAt (Bq) uh ul Wa) := Lib.hid (WideAt.below hb RD.out)
      replace HB : Hid (Below w.heap.size w Wa) := Lib.hid (bnext HB.out hb)
      clear hKa hb hKb hKc Kb Kc
      go_wp2_with (first | (refine wpList_load_row rfl 27 (.tmp 9) rfl (w1.heap.size) rfl _ _ _ _ RP.out Try.underlying27 rfl (bv_info _) ?_) | (refine wpList_load_row rfl 27 (.tmp 10) rfl (w2.heap.size) rfl _ _ _ _ RQ.out Try.underlying27 rfl (bv_info _) ?_))
      rename_i Kd hKd Ke hKe Kf hKf
      have HB2 : ∀ (Wb : World), Below Wa.heap.size Wa Wb → Kd { tmps := #[.int .i64 a, .int .i64 b, .agg #[.int .i64 xh, .int .u64 xl], .agg #[.int .i64 yh, .int .u64 yl], undef, undef, .pointer (some ⟨w.heap.size, 0, none⟩), .pointer (some ⟨w.heap.size + 1, 0, none⟩), .bool false, .pointer (some ⟨w1.heap.size, 0, none⟩), .pointer (some ⟨w2.heap.size, 0, none⟩), .pointer (some ⟨w6.heap.size, 0, none⟩), .bool true, .pointer (some ⟨w8.heap.size, 0, none⟩), .bool true, .pointer (some ⟨w9.heap.size, 0, none⟩), .int .i64 se, .pointer (some ⟨w11.heap.size, 0, none⟩), .int .i64 se, .pointer (some ⟨w12.heap.size, 0, none⟩), .int .i64 ue, .pointer (some ⟨Bq, 0, none⟩), .int .i64 ue, .int .i64 c, undef, undef, undef, undef, undef, .agg #[.int .i64 xh, .int .u64 xl], .agg (bv X), .agg #[.int .i64 yh, .int .u64 yl], .agg (bv Y), .tuple #[.agg #[.int .i64 mh, .int .u64 ml], .bool true], .int .i64 a, .agg (bv a), .int .i64 b, .agg (bv b), .agg (bv p), .tuple #[.agg #[.int .i64 mh, .int .u64 ml], .bool true], .agg #[.int .i64 mh, .int .u64 ml], .bool true, .tuple #[.agg #[.int .i64 nh, .int .u64 nl], .bool true], .int .i64 a, .agg (bv a), .tuple #[.agg #[.int .i64 nh, .int .u64 nl], .bool true], .agg #[.int .i64 nh, .int .u64 nl], .bool true, .tuple #[.agg #[.int .i64 sh, .int .u64 sl], .int .i64 se], .agg #[.int .i64 xh, .int .u64 xl], .agg #[.int .i64 yh, .int .u64 yl], .tuple #[.agg #[.int .i64 sh, .int .u64 sl], .int .i64 se], .agg #[.int .i64 sh, .int .u64 sl], .int .i64 se, .tuple #[.agg #[.int .i64 sh, .int .u64 sl], .int .i64 se], .agg (bv X), .agg (bv Y), .agg (bv s), .tuple #[.agg #[.int .i64 sh, .int .u64 sl], .int .i64 se], .agg #[.int .i64 sh, .int .u64 sl], .int .i64 se, .tuple #[.agg #[.int .i64 uh, .int .u64 ul], .int .i64 ue], .agg #[.int .i64 xh, .int .u64 xl], .agg #[.int .i64 yh, .int .u64 yl], .tuple #[.agg #[.int .i64 uh, .int .u64 ul], .int .i64 ue], .agg #[.int .i64 uh, .int .u64 ul], .int .i64 ue, .tuple #[.agg #[.int .i64 uh, .int .u64 ul], .int .i64 ue], .agg (bv X), .agg (bv Y), .agg (bv n), .agg (bv d), .tuple #[.agg #[.int .i64 uh, .int .u64 ul], .int .i64 ue], .agg #[.int .i64 uh, .int .u64 ul], .int .i64 ue, .agg (bv X), .agg (bv Y), .bool b1, .agg (bv Y), .agg (bv X), .bool b2, undef, undef, undef, undef, undef, undef, undef, undef, undef, undef, undef, undef, undef, undef, undef, undef, undef, undef, undef, undef, undef, undef, undef, undef, undef, undef, undef, undef, undef, undef, undef, undef, undef, undef, undef, undef, undef, undef, undef, undef, undef, undef, undef, undef, undef, undef, undef, undef, undef, undef, undef, undef, undef, undef, undef, undef, undef, undef, undef, undef, undef, undef, undef, undef, undef, undef, undef, undef, undef, undef, undef, undef, undef, undef, undef, undef, undef, undef, undef, undef, undef, undef, undef, undef, undef, undef, undef, undef, undef, undef, undef, undef, undef], defers := [] } Wb := by
        intro Wb hb
        refine hKd _ _ ?_
        replace Rx : Hid (WideAt (w.heap.size) xh xl Wb) := Lib.hid (WideAt.below hb Rx.out)
        replace Ry : Hid (WideAt (w.heap.size + 1) yh yl Wb) := Lib.hid (WideAt.below hb Ry.out)
        replace RP : Hid (BigAt (w1.heap.size) X Wb) := Lib.hid (BigAt.below hb RP.out)
        replace RQ : Hid (BigAt (w2.heap.size) Y Wb) := Lib.hid (BigAt.below hb RQ.out)
        replace RM : Hid (WideAt (w6.heap.size) mh ml Wb) := Lib.hid (WideAt.below hb RM.out)
        replace RN : Hid (WideAt (w8.heap.size) nh nl Wb) := Lib.hid (WideAt.below hb RN.out)
        replace RS : Hid (WideAt (w9.heap.size) sh sl Wb) := Lib.hid (WideAt.below hb RS.out)
        replace RZ : Hid (WideAt (w11.heap.size) sh sl Wb) := Lib.hid (WideAt.below hb RZ.out)
        replace RU : Hid (WideAt (w12.heap.size) uh ul Wb) := Lib.hid (WideAt.below hb RU.out)
        replace RD : Hid (WideAt (Bq) uh ul Wb) := Lib.hid (WideAt.below hb RD.out)
        replace HB : Hid (Below w.heap.size w Wb) := Lib.hid (bnext HB.out hb)
        clear hKd hb hKe hKf Ke Kf hc hc1
        go_wp2_with (refine wpList_load_row rfl 24 (.tmp 6) rfl (w.heap.size) rfl _ _ _ _ Rx.out Try.underlying24 rfl (by kernel_rfl) ?_)
        refine (cWI.out _).mono ?_
        rintro e w15 ⟨rfl, hb15⟩
        have B15 := bnext HB.out hb15
        have HBn : Hid (Below w.heap.size w w15) := Lib.hid B15
        clear HB
        have HB := HBn
        clear HBn
        replace Rx : Hid (WideAt (w.heap.size) xh xl w15) := Lib.hid (WideAt.below hb15 Rx.out)
        replace Ry : Hid (WideAt (w.heap.size + 1) yh yl w15) := Lib.hid (WideAt.below hb15 Ry.out)
        replace RP : Hid (BigAt (w1.heap.size) X w15) := Lib.hid (BigAt.below hb15 RP.out)
        replace RQ : Hid (BigAt (w2.heap.size) Y w15) := Lib.hid (BigAt.below hb15 RQ.out)
        replace RM : Hid (WideAt (w6.heap.size) mh ml w15) := Lib.hid (WideAt.below hb15 RM.out)
        replace RN : Hid (WideAt (w8.heap.size) nh nl w15) := Lib.hid (WideAt.below hb15 RN.out)
        replace RS : Hid (WideAt (w9.heap.size) sh sl w15) := Lib.hid (WideAt.below hb15 RS.out)
        replace RZ : Hid (WideAt (w11.heap.size) sh sl w15) := Lib.hid (WideAt.below hb15 RZ.out)
        replace RU : Hid (WideAt (w12.heap.size) uh ul w15) := Lib.hid (WideAt.below hb15 RU.out)
        replace RD : Hid (WideAt (Bq) uh ul w15) := Lib.hid (WideAt.below hb15 RD.out)
        clear hb15 B15
        go_wp2_with fail
        refine (cOk.out _).mono ?_
        rintro e w16 ⟨rfl, hb16⟩
        have B16 := bnext HB.out hb16
        have HBn : Hid (Below w.heap.size w w16) := Lib.hid B16
        clear HB
        have HB := HBn
        clear HBn
        replace Rx : Hid (WideAt (w.heap.size) xh xl w16) := Lib.hid (WideAt.below hb16 Rx.out)
        replace Ry : Hid (WideAt (w.heap.size + 1) yh yl w16) := Lib.hid (WideAt.below hb16 Ry.out)
        replace RP : Hid (BigAt (w1.heap.size) X w16) := Lib.hid (BigAt.below hb16 RP.out)
        replace RQ : Hid (BigAt (w2.heap.size) Y w16) := Lib.hid (BigAt.below hb16 RQ.out)
        replace RM : Hid (WideAt (w6.heap.size) mh ml w16) := Lib.hid (WideAt.below hb16 RM.out)
        replace RN : Hid (WideAt (w8.heap.size) nh nl w16) := Lib.hid (WideAt.below hb16 RN.out)
        replace RS : Hid (WideAt (w9.heap.size) sh sl w16) := Lib.hid (WideAt.below hb16 RS.out)
        replace RZ : Hid (WideAt (w11.heap.size) sh sl w16) := Lib.hid (WideAt.below hb16 RZ.out)
        replace RU : Hid (WideAt (w12.heap.size) uh ul w16) := Lib.hid (WideAt.below hb16 RU.out)
        replace RD : Hid (WideAt (Bq) uh ul w16) := Lib.hid (WideAt.below hb16 RD.out)
        clear hb16 B16
        go_wp2_with fail
        refine (cT3.out _).mono ?_
        rintro e w17 ⟨rfl, hb17⟩
        have B17 := bnext HB.out hb17
        have HBn : Hid (Below w.heap.size w (w17.alloc (.cells #[.int .i64 vh, .int .u64 vl] 24))) := Lib.hid (B17.alloc B17.size _)
        clear HB
        have HB := HBn
        clear HBn
        replace Rx : Hid (WideAt (w.heap.size) xh xl (w17.alloc (.cells #[.int .i64 vh, .int .u64 vl] 24))) := Lib.hid (step_row (WideAt.below hb17 Rx.out))
        replace Ry : Hid (WideAt (w.heap.size + 1) yh yl (w17.alloc (.cells #[.int .i64 vh, .int .u64 vl] 24))) := Lib.hid (step_row (WideAt.below hb17 Ry.out))
        replace RP : Hid (BigAt (w1.heap.size) X (w17.alloc (.cells #[.int .i64 vh, .int .u64 vl] 24))) := Lib.hid (step_row (BigAt.below hb17 RP.out))
        replace RQ : Hid (BigAt (w2.heap.size) Y (w17.alloc (.cells #[.int .i64 vh, .int .u64 vl] 24))) := Lib.hid (step_row (BigAt.below hb17 RQ.out))
        replace RM : Hid (WideAt (w6.heap.size) mh ml (w17.alloc (.cells #[.int .i64 vh, .int .u64 vl] 24))) := Lib.hid (step_row (WideAt.below hb17 RM.out))
        replace RN : Hid (WideAt (w8.heap.size) nh nl (w17.alloc (.cells #[.int .i64 vh, .int .u64 vl] 24))) := Lib.hid (step_row (WideAt.below hb17 RN.out))
        replace RS : Hid (WideAt (w9.heap.size) sh sl (w17.alloc (.cells #[.int .i64 vh, .int .u64 vl] 24))) := Lib.hid (step_row (WideAt.below hb17 RS.out))
        replace RZ : Hid (WideAt (w11.heap.size) sh sl (w17.alloc (.cells #[.int .i64 vh, .int .u64 vl] 24))) := Lib.hid (step_row (WideAt.below hb17 RZ.out))
        replace RU : Hid (WideAt (w12.heap.size) uh ul (w17.alloc (.cells #[.int .i64 vh, .int .u64 vl] 24))) := Lib.hid (step_row (WideAt.below hb17 RU.out))
        replace RD : Hid (WideAt (Bq) uh ul (w17.alloc (.cells #[.int .i64 vh, .int .u64 vl] 24))) := Lib.hid (step_row (WideAt.below hb17 RD.out))
        have RW : Hid (WideAt (w17.heap.size) vh vl (w17.alloc (.cells #[.int .i64 vh, .int .u64 vl] 24))) := Lib.hid (heap_alloc_new _ _)
        clear hb17 B17
        go_wp2_with fail
        generalize (w17.alloc (.cells #[.int .i64 vh, .int .u64 vl] 24)) = V2 at Rx Ry RP RQ RM RN RS RZ RU RD RW HB ⊢
        rename_i K16 hK16
        refine (wpIn_wide (n := 5)).1 (held_region (F := Fence.wide) (S := fun X => Below V2.heap.size V2 X) (by kernel_rfl) (bdrew0 _ _ 1) (fun hHeld => ?_))
        refine held_take (fun _ => trivial) (by kernel_rfl) (i := 0) (oi := _) (v := .agg (bv X)) rfl (by kernel_rfl) (by kernel_rfl) (by kernel_rfl) (fun _ _ _ h => h) (by assumption) (Or.inl ⟨by kernel_rfl, ?_⟩) ?_
        · intro wz hSw; exact exec_load_row 27 (.tmp 9) (by kernel_rfl) (w1.heap.size) (by kernel_rfl) _ _ _ _ (BigAt.below hSw RP.out) Try.underlying27 (by kernel_rfl) (bv_info _)
        (try simp only [Act.put, List.getElem_toArray, List.getElem_cons_zero, List.getElem_cons_succ, List.setIfInBounds_toArray, List.set_cons_zero, List.set_cons_succ])
        refine held_step (fun _ => trivial) (i := 1) (o := _) (by kernel_rfl) rfl (fun K hK => ?_)
        go_simp
        refine ⟨trivial, callsIn_wide.2 ((cTw.out _).mono ?_)⟩
        rintro e x1 ⟨rfl, hb1⟩
        dsimp only
        refine hK.out _ _ (bnext hHeld hb1) (fun hHeld => ?_)
        clear hK K
        (try simp only [Act.put, List.getElem_toArray, List.getElem_cons_zero, List.getElem_cons_succ, List.setIfInBounds_toArray, List.set_cons_zero, List.set_cons_succ])
        refine held_step (fun _ => trivial) (i := 2) (o := _) (by kernel_rfl) rfl (fun K hK => ?_)
        go_simp
        refine ⟨trivial, callsIn_wide.2 ((cNt.out _).mono ?_)⟩
        rintro e x2 ⟨rfl, hb2⟩
        dsimp only
        refine hK.out _ _ (bnext hHeld hb2) (fun hHeld => ?_)
        clear hK K
        (try simp only [Act.put, List.getElem_toArray, List.getElem_cons_zero, List.getElem_cons_succ, List.setIfInBounds_toArray, List.set_cons_zero, List.set_cons_succ])
        refine held_step (fun _ => trivial) (i := 3) (o := _) (by kernel_rfl) rfl (fun K hK => ?_)
        go_simp
        refine ⟨trivial, callsIn_wide.2 ((cL3.out _).mono ?_)⟩
        rintro e x3 ⟨rfl, hb3⟩
        dsimp only
        refine hK.out _ _ (bnext hHeld hb3) (fun hHeld => ?_)
        clear hK K
        (try simp only [Act.put, List.getElem_toArray, List.getElem_cons_zero, List.getElem_cons_succ, List.setIfInBounds_toArray, List.set_cons_zero, List.set_cons_succ])
        refine held_take (fun _ => trivial) (by kernel_rfl) (i := 4) (oi := _) (v := ?_) rfl (by kernel_rfl) (by kernel_rfl) (by kernel_rfl) (fun _ _ _ h => h) (by assumption) (Or.inl ⟨by kernel_rfl, ?_⟩) ?_
        rotate_left
        · intro wz hSw; (first | (go_simp; done) | (go_simp; with_reducible rfl))
        (try simp only [Act.put, List.getElem_toArray, List.getElem_cons_zero, List.getElem_cons_succ, List.setIfInBounds_toArray, List.set_cons_zero, List.set_cons_succ])
        refine held_take (fun _ => trivial) (by kernel_rfl) (i := 5) (oi := _) (v := ?_) rfl (by kernel_rfl) (by kernel_rfl) (by kernel_rfl) (fun _ _ _ h => h) (by assumption) (Or.inl ⟨by kernel_rfl, ?_⟩) ?_
        rotate_left
        · intro wz hSw; (first | (go_simp; done) | (go_simp; with_reducible rfl))
        (try simp only [Act.put, List.getElem_toArray, List.getElem_cons_zero, List.getElem_cons_succ, List.setIfInBounds_toArray, List.set_cons_zero, List.set_cons_succ])
        refine held_take (fun _ => trivial) (by kernel_rfl) (i := 6) (oi := _) (v := undef) rfl (by kernel_rfl) (by kernel_rfl) (by kernel_rfl) (fun _ _ _ h => h) (by assumption) (Or.inr ⟨by kernel_rfl, rfl⟩) ?_
        (try simp only [Act.put, List.getElem_toArray, List.getElem_cons_zero, List.getElem_cons_succ, List.setIfInBounds_toArray, List.set_cons_zero, List.set_cons_succ])
        refine held_step (fun _ => trivial) (i := 7) (o := _) (by kernel_rfl) rfl (fun K hK => ?_)
        go_simp
        refine hK.out _ _ (hHeld) (fun hHeld => ?_)
        clear hK K
        (try simp only [Act.put, List.getElem_toArray, List.getElem_cons_zero, List.getElem_cons_succ, List.setIfInBounds_toArray, List.set_cons_zero, List.set_cons_succ])
        refine held_step (fun _ => trivial) (i := 8) (o := _) (by kernel_rfl) rfl (fun K hK => ?_)
        go_simp
        refine hK.out _ _ (hHeld) (fun hHeld => ?_)
        clear hK K
        (try simp only [Act.put, List.getElem_toArray, List.getElem_cons_zero, List.getElem_cons_succ, List.setIfInBounds_toArray, List.set_cons_zero, List.set_cons_succ])
        refine held_take (fun _ => trivial) (by kernel_rfl) (i := 9) (oi := _) (v := ?_) rfl (by kernel_rfl) (by kernel_rfl) (by kernel_rfl) (fun _ _ _ h => h) (by assumption) (Or.inl ⟨by kernel_rfl, ?_⟩) ?_
        rotate_left
        · intro wz hSw; (first | (go_simp; done) | (go_simp; with_reducible rfl))
        (try simp only [Act.put, List.getElem_toArray, List.getElem_cons_zero, List.getElem_cons_succ, List.setIfInBounds_toArray, List.set_cons_zero, List.set_cons_succ])
        refine held_take (fun _ => trivial) (by kernel_rfl) (i := 10) (oi := _) (v := ?_) rfl (by kernel_rfl) (by kernel_rfl) (by kernel_rfl) (fun _ _ _ h => h) (by assumption) (Or.inl ⟨by kernel_rfl, ?_⟩) ?_
        rotate_left
        · intro wz hSw; (first | (go_simp; done) | (go_simp; with_reducible rfl))
        (try simp only [Act.put, List.getElem_toArray, List.getElem_cons_zero, List.getElem_cons_succ, List.setIfInBounds_toArray, List.set_cons_zero, List.set_cons_succ])
        refine held_done (by kernel_rfl) ?_ _
        refine hK16 _ _ ?_
        replace Rx : Hid (WideAt (w.heap.size) xh xl x3) := Lib.hid (WideAt.below hHeld Rx.out)
        replace Ry : Hid (WideAt (w.heap.size + 1) yh yl x3) := Lib.hid (WideAt.below hHeld Ry.out)
        replace RP : Hid (BigAt (w1.heap.size) X x3) := Lib.hid (BigAt.below hHeld RP.out)
        replace RQ : Hid (BigAt (w2.heap.size) Y x3) := Lib.hid (BigAt.below hHeld RQ.out)
        replace RM : Hid (WideAt (w6.heap.size) mh ml x3) := Lib.hid (WideAt.below hHeld RM.out)
        replace RN : Hid (WideAt (w8.heap.size) nh nl x3) := Lib.hid (WideAt.below hHeld RN.out)
        replace RS : Hid (WideAt (w9.heap.size) sh sl x3) := Lib.hid (WideAt.below hHeld RS.out)
        replace RZ : Hid (WideAt (w11.heap.size) sh sl x3) := Lib.hid (WideAt.below hHeld RZ.out)
        replace RU : Hid (WideAt (w12.heap.size) uh ul x3) := Lib.hid (WideAt.below hHeld RU.out)
        replace RD : Hid (WideAt (Bq) uh ul x3) := Lib.hid (WideAt.below hHeld RD.out)
        replace RW : Hid (WideAt (w17.heap.size) vh vl x3) := Lib.hid (WideAt.below hHeld RW.out)
        replace HB : Hid (Below w.heap.size w x3) := Lib.hid (bnext HB.out hHeld)
        clear hK16 hHeld hb1 hb2 hb3
        go_wp2_with fail
        rename_i K17 hK17
        refine (wpIn_wide (n := 5)).1 (held_region (F := Fence.wide) (S := fun X => Below x3.heap.size x3 X) (by kernel_rfl) (bdrew0 _ _ 1) (fun hHeld => ?_))
        refine held_take_at (some 102) (fun _ => trivial) (by kernel_rfl) (i := 0) (oi := _) (v := ?_) rfl (by kernel_rfl) (by kernel_rfl) (by kernel_rfl) (fun _ _ _ h => h) (by assumption) (Or.inl ⟨by kernel_rfl, ?_⟩) rfl ?_
        rotate_left
        · intro wz hSw; (first | (go_simp; done) | (go_simp; with_reducible rfl))
        (try simp only [Act.put, List.getElem_toArray, List.getElem_cons_zero, List.getElem_cons_succ, List.setIfInBounds_toArray, List.set_cons_zero, List.set_cons_succ])
        refine held_take_at (some 103) (fun _ => trivial) (by kernel_rfl) (i := 1) (oi := _) (v := ?_) rfl (by kernel_rfl) (by kernel_rfl) (by kernel_rfl) (fun _ _ _ h => h) (by assumption) (Or.inl ⟨by kernel_rfl, ?_⟩) rfl ?_
        rotate_left
        · intro wz hSw; (first | (go_simp; done) | (go_simp; with_reducible rfl))
        (try simp only [Act.put, List.getElem_toArray, List.getElem_cons_zero, List.getElem_cons_succ, List.setIfInBounds_toArray, List.set_cons_zero, List.set_cons_succ])
        refine held_take_at (some 105) (fun _ => trivial) (by kernel_rfl) (i := 3) (oi := _) (v := .agg #[.int .i64 mh, .int .u64 ml]) rfl (by kernel_rfl) (by kernel_rfl) (by kernel_rfl) (fun _ _ _ h => h) (by assumption) (Or.inl ⟨by kernel_rfl, ?_⟩) rfl ?_
        · intro wz hSw; exact exec_load_row 24 (.tmp 11) (by kernel_rfl) (w6.heap.size) (by kernel_rfl) _ _ _ _ (WideAt.below hSw RM.out) Try.underlying24 (by kernel_rfl) (by kernel_rfl)
        (try simp only [Act.put, List.getElem_toArray, List.getElem_cons_zero, List.getElem_cons_succ, List.setIfInBounds_toArray, List.set_cons_zero, List.set_cons_succ])
        refine held_step (fun _ => trivial) (i := 2) (o := _) (by kernel_rfl) rfl (fun K hK => ?_)
        go_simp
        refine ⟨trivial, callsIn_wide.2 ((cWM.out _).mono ?_)⟩
        rintro e y10 ⟨rfl, hc10⟩
        dsimp only
        refine hK.out _ _ (bnext hHeld hc10) (fun hHeld => ?_)
        clear hK K
        (try simp only [Act.put, List.getElem_toArray, List.getElem_cons_zero, List.getElem_cons_succ, List.setIfInBounds_toArray, List.set_cons_zero, List.set_cons_succ])
        refine held_take_at (some 106) (fun _ => trivial) (by kernel_rfl) (i := 4) (oi := _) (v := ?_) rfl (by kernel_rfl) (by kernel_rfl) (by kernel_rfl) (fun _ _ _ h => h) (by assumption) (Or.inl ⟨by kernel_rfl, ?_⟩) rfl ?_
        rotate_left
        · intro wz hSw; (first | (go_simp; done) | (go_simp; with_reducible rfl))
        (try simp only [Act.put, List.getElem_toArray, List.getElem_cons_zero, List.getElem_cons_succ, List.setIfInBounds_toArray, List.set_cons_zero, List.set_cons_succ])
        refine held_take_at (some 107) (fun _ => trivial) (by kernel_rfl) (i := 5) (oi := _) (v := ?_) rfl (by kernel_rfl) (by kernel_rfl) (by kernel_rfl) (fun _ _ _ h => h) (by assumption) (Or.inl ⟨by kernel_rfl, ?_⟩) rfl ?_
        rotate_left
        · intro wz hSw; (first | (go_simp; done) | (go_simp; with_reducible rfl))
        (try simp only [Act.put, List.getElem_toArray, List.getElem_cons_zero, List.getElem_cons_succ, List.setIfInBounds_toArray, List.set_cons_zero, List.set_cons_succ])
        refine held_take_at (some 108) (fun _ => trivial) (by kernel_rfl) (i := 6) (oi := _) (v := ?_) rfl (by kernel_rfl) (by kernel_rfl) (by kernel_rfl) (fun _ _ _ h => h) (by assumption) (Or.inl ⟨by kernel_rfl, ?_⟩) rfl ?_
        rotate_left
        · intro wz hSw; (first | (go_simp; done) | (go_simp; with_reducible rfl))
        (try simp only [Act.put, List.getElem_toArray, List.getElem_cons_zero, List.getElem_cons_succ, List.setIfInBounds_toArray, List.set_cons_zero, List.set_cons_succ])
        refine held_take_at (some 110) (fun _ => trivial) (by kernel_rfl) (i := 8) (oi := _) (v := .agg #[.int .i64 nh, .int .u64 nl]) rfl (by kernel_rfl) (by kernel_rfl) (by kernel_rfl) (fun _ _ _ h => h) (by assumption) (Or.inl ⟨by kernel_rfl, ?_⟩) rfl ?_
        · intro wz hSw; exact exec_load_row 24 (.tmp 13) (by kernel_rfl) (w8.heap.size) (by kernel_rfl) _ _ _ _ (WideAt.below hSw RN.out) Try.underlying24 (by kernel_rfl) (by kernel_rfl)
        (try simp only [Act.put, List.getElem_toArray, List.getElem_cons_zero, List.getElem_cons_succ, List.setIfInBounds_toArray, List.set_cons_zero, List.set_cons_succ])
        refine held_step (fun _ => trivial) (i := 7) (o := _) (by kernel_rfl) rfl (fun K hK => ?_)
        go_simp
        refine ⟨trivial, callsIn_wide.2 ((cWO.out _).mono ?_)⟩
        rintro e y11 ⟨rfl, hc11⟩
        dsimp only
        refine hK.out _ _ (bnext hHeld hc11) (fun hHeld => ?_)
        clear hK K
        (try simp only [Act.put, List.getElem_toArray, List.getElem_cons_zero, List.getElem_cons_succ, List.setIfInBounds_toArray, List.set_cons_zero, List.set_cons_succ])
        refine held_take_at (some 111) (fun _ => trivial) (by kernel_rfl) (i := 9) (oi := _) (v := ?_) rfl (by kernel_rfl) (by kernel_rfl) (by kernel_rfl) (fun _ _ _ h => h) (by assumption) (Or.inl ⟨by kernel_rfl, ?_⟩) rfl ?_
        rotate_left
        · intro wz hSw; (first | (go_simp; done) | (go_simp; with_reducible rfl))
        (try simp only [Act.put, List.getElem_toArray, List.getElem_cons_zero, List.getElem_cons_succ, List.setIfInBounds_toArray, List.set_cons_zero, List.set_cons_succ])
        refine held_take_at (some 112) (fun _ => trivial) (by kernel_rfl) (i := 10) (oi := _) (v := ?_) rfl (by kernel_rfl) (by kernel_rfl) (by kernel_rfl) (fun _ _ _ h => h) (by assumption) (Or.inl ⟨by kernel_rfl, ?_⟩) rfl ?_
        rotate_left
        · intro wz hSw; (first | (go_simp; done) | (go_simp; with_reducible rfl))
        (try simp only [Act.put, List.getElem_toArray, List.getElem_cons_zero, List.getElem_cons_succ, List.setIfInBounds_toArray, List.set_cons_zero, List.set_cons_succ])
        refine held_take_at (some 113) (fun _ => trivial) (by kernel_rfl) (i := 11) (oi := _) (v := ?_) rfl (by kernel_rfl) (by kernel_rfl) (by kernel_rfl) (fun _ _ _ h => h) (by assumption) (Or.inl ⟨by kernel_rfl, ?_⟩) rfl ?_
        rotate_left
        · intro wz hSw; (first | (go_simp; done) | (go_simp; with_reducible rfl))
        (try simp only [Act.put, List.getElem_toArray, List.getElem_cons_zero, List.getElem_cons_succ, List.setIfInBounds_toArray, List.set_cons_zero, List.set_cons_succ])
        refine held_take_at (some 114) (fun _ => trivial) (by kernel_rfl) (i := 12) (oi := _) (v := .agg #[.int .i64 sh, .int .u64 sl]) rfl (by kernel_rfl) (by kernel_rfl) (by kernel_rfl) (fun _ _ _ h => h) (by assumption) (Or.inl ⟨by kernel_rfl, ?_⟩) rfl ?_
        · intro wz hSw; exact exec_load_row 24 (.tmp 15) (by kernel_rfl) (w9.heap.size) (by kernel_rfl) _ _ _ _ (WideAt.below hSw RS.out) Try.underlying24 (by kernel_rfl) (by kernel_rfl)
        (try simp only [Act.put, List.getElem_toArray, List.getElem_cons_zero, List.getElem_cons_succ, List.setIfInBounds_toArray, List.set_cons_zero, List.set_cons_succ])
        refine held_take_at (some 115) (fun _ => trivial) (by kernel_rfl) (i := 13) (oi := _) (v := .agg #[.int .i64 sh, .int .u64 sl]) rfl (by kernel_rfl) (by kernel_rfl) (by kernel_rfl) (fun _ _ _ h => h) (by assumption) (Or.inl ⟨by kernel_rfl, ?_⟩) rfl ?_
        · intro wz hSw; exact exec_load_row 24 (.tmp 17) (by kernel_rfl) (w11.heap.size) (by kernel_rfl) _ _ _ _ (WideAt.below hSw RZ.out) Try.underlying24 (by kernel_rfl) (by kernel_rfl)
        (try simp only [Act.put, List.getElem_toArray, List.getElem_cons_zero, List.getElem_cons_succ, List.setIfInBounds_toArray, List.set_cons_zero, List.set_cons_succ])
        refine held_take_at (some 116) (fun _ => trivial) (by kernel_rfl) (i := 14) (oi := _) (v := ?_) rfl (by kernel_rfl) (by kernel_rfl) (by kernel_rfl) (fun _ _ _ h => h) (by assumption) (Or.inl ⟨by kernel_rfl, ?_⟩) rfl ?_
        rotate_left
        · intro wz hSw; (first | (go_simp; done) | (go_simp; with_reducible rfl))
        (try simp only [Act.put, List.getElem_toArray, List.getElem_cons_zero, List.getElem_cons_succ, List.setIfInBounds_toArray, List.set_cons_zero, List.set_cons_succ])
        refine held_take_at (some 117) (fun _ => trivial) (by kernel_rfl) (i := 15) (oi := _) (v := ?_) rfl (by kernel_rfl) (by kernel_rfl) (by kernel_rfl) (fun _ _ _ h => h) (by assumption) (Or.inl ⟨by kernel_rfl, ?_⟩) rfl ?_
        rotate_left
        · intro wz hSw; (first | (go_simp; done) | (go_simp; with_reducible rfl))
        (try simp only [Act.put, List.getElem_toArray, List.getElem_cons_zero, List.getElem_cons_succ, List.setIfInBounds_toArray, List.set_cons_zero, List.set_cons_succ])
        refine held_take_at (some 118) (fun _ => trivial) (by kernel_rfl) (i := 16) (oi := _) (v := ?_) rfl (by kernel_rfl) (by kernel_rfl) (by kernel_rfl) (fun _ _ _ h => h) (by assumption) (Or.inl ⟨by kernel_rfl, ?_⟩) rfl ?_
        rotate_left
        · intro wz hSw; (first | (go_simp; done) | (go_simp; with_reducible rfl))
        (try simp only [Act.put, List.getElem_toArray, List.getElem_cons_zero, List.getElem_cons_succ, List.setIfInBounds_toArray, List.set_cons_zero, List.set_cons_succ])
        refine held_take_at (some 119) (fun _ => trivial) (by kernel_rfl) (i := 17) (oi := _) (v := ?_) rfl (by kernel_rfl) (by kernel_rfl) (by kernel_rfl) (fun _ _ _ h => h) (by assumption) (Or.inl ⟨by kernel_rfl, ?_⟩) rfl ?_
        rotate_left
        · intro wz hSw; (first | (go_simp; done) | (go_simp; with_reducible rfl))
        (try simp only [Act.put, List.getElem_toArray, List.getElem_cons_zero, List.getElem_cons_succ, List.setIfInBounds_toArray, List.set_cons_zero, List.set_cons_succ])
        refine held_take_at (some 120) (fun _ => trivial) (by kernel_rfl) (i := 18) (oi := _) (v := ?_) rfl (by kernel_rfl) (by kernel_rfl) (by kernel_rfl) (fun _ _ _ h => h) (by assumption) (Or.inl ⟨by kernel_rfl, ?_⟩) rfl ?_
        rotate_left
        · intro wz hSw; (first | (go_simp; done) | (go_simp; with_reducible rfl))
        (try simp only [Act.put, List.getElem_toArray, List.getElem_cons_zero, List.getElem_cons_succ, List.setIfInBounds_toArray, List.set_cons_zero, List.set_cons_succ])
        refine held_take_at (some 121) (fun _ => trivial) (by kernel_rfl) (i := 19) (oi := _) (v := ?_) rfl (by kernel_rfl) (by kernel_rfl) (by kernel_rfl) (fun _ _ _ h => h) (by assumption) (Or.inl ⟨by kernel_rfl, ?_⟩) rfl ?_
        rotate_left
        · intro wz hSw; (first | (go_simp; done) | (go_simp; with_reducible rfl))
        (try simp only [Act.put, List.getElem_toArray, List.getElem_cons_zero, List.getElem_cons_succ, List.setIfInBounds_toArray, List.set_cons_zero, List.set_cons_succ])
        refine held_take_at (some 122) (fun _ => trivial) (by kernel_rfl) (i := 20) (oi := _) (v := ?_) rfl (by kernel_rfl) (by kernel_rfl) (by kernel_rfl) (fun _ _ _ h => h) (by assumption) (Or.inl ⟨by kernel_rfl, ?_⟩) rfl ?_
        rotate_left
        · intro wz hSw; (first | (go_simp; done) | (go_simp; with_reducible rfl))
        (try simp only [Act.put, List.getElem_toArray, List.getElem_cons_zero, List.getElem_cons_succ, List.setIfInBounds_toArray, List.set_cons_zero, List.set_cons_succ])
        refine held_take_at (some 123) (fun _ => trivial) (by kernel_rfl) (i := 21) (oi := _) (v := ?_) rfl (by kernel_rfl) (by kernel_rfl) (by kernel_rfl) (fun _ _ _ h => h) (by assumption) (Or.inl ⟨by kernel_rfl, ?_⟩) rfl ?_
        rotate_left
        · intro wz hSw; (first | (go_simp; done) | (go_simp; with_reducible rfl))
        (try simp only [Act.put, List.getElem_toArray, List.getElem_cons_zero, List.getElem_cons_succ, List.setIfInBounds_toArray, List.set_cons_zero, List.set_cons_succ])
        refine held_take_at (some 124) (fun _ => trivial) (by kernel_rfl) (i := 22) (oi := _) (v := .agg #[.int .i64 uh, .int .u64 ul]) rfl (by kernel_rfl) (by kernel_rfl) (by kernel_rfl) (fun _ _ _ h => h) (by assumption) (Or.inl ⟨by kernel_rfl, ?_⟩) rfl ?_
        · intro wz hSw; exact exec_load_row 24 (.tmp 19) (by kernel_rfl) (w12.heap.size) (by kernel_rfl) _ _ _ _ (WideAt.below hSw RU.out) Try.underlying24 (by kernel_rfl) (by kernel_rfl)
        (try simp only [Act.put, List.getElem_toArray, List.getElem_cons_zero, List.getElem_cons_succ, List.setIfInBounds_toArray, List.set_cons_zero, List.set_cons_succ])
        refine held_take_at (some 125) (fun _ => trivial) (by kernel_rfl) (i := 23) (oi := _) (v := .agg #[.int .i64 uh, .int .u64 ul]) rfl (by kernel_rfl) (by kernel_rfl) (by kernel_rfl) (fun _ _ _ h => h) (by assumption) (Or.inl ⟨by kernel_rfl, ?_⟩) rfl ?_
        · intro wz hSw; exact exec_load_row 24 (.tmp 21) (by kernel_rfl) (Bq) (by kernel_rfl) _ _ _ _ (WideAt.below hSw RD.out) Try.underlying24 (by kernel_rfl) (by kernel_rfl)
        (try simp only [Act.put, List.getElem_toArray, List.getElem_cons_zero, List.getElem_cons_succ, List.setIfInBounds_toArray, List.set_cons_zero, List.set_cons_succ])
        refine held_take_at (some 126) (fun _ => trivial) (by kernel_rfl) (i := 24) (oi := _) (v := ?_) rfl (by kernel_rfl) (by kernel_rfl) (by kernel_rfl) (fun _ _ _ h => h) (by assumption) (Or.inl ⟨by kernel_rfl, ?_⟩) rfl ?_
        rotate_left
        · intro wz hSw; (first | (go_simp; done) | (go_simp; with_reducible rfl))
        (try simp only [Act.put, List.getElem_toArray, List.getElem_cons_zero, List.getElem_cons_succ, List.setIfInBounds_toArray, List.set_cons_zero, List.set_cons_succ])
        refine held_take_at (some 127) (fun _ => trivial) (by kernel_rfl) (i := 25) (oi := _) (v := ?_) rfl (by kernel_rfl) (by kernel_rfl) (by kernel_rfl) (fun _ _ _ h => h) (by assumption) (Or.inl ⟨by kernel_rfl, ?_⟩) rfl ?_
        rotate_left
        · intro wz hSw; (first | (go_simp; done) | (go_simp; with_reducible rfl))
        (try simp only [Act.put, List.getElem_toArray, List.getElem_cons_zero, List.getElem_cons_succ, List.setIfInBounds_toArray, List.set_cons_zero, List.set_cons_succ])
        refine held_take_at (some 128) (fun _ => trivial) (by kernel_rfl) (i := 26) (oi := _) (v := ?_) rfl (by kernel_rfl) (by kernel_rfl) (by kernel_rfl) (fun _ _ _ h => h) (by assumption) (Or.inl ⟨by kernel_rfl, ?_⟩) rfl ?_
        rotate_left
        · intro wz hSw; (first | (go_simp; done) | (go_simp; with_reducible rfl))
        (try simp only [Act.put, List.getElem_toArray, List.getElem_cons_zero, List.getElem_cons_succ, List.setIfInBounds_toArray, List.set_cons_zero, List.set_cons_succ])
        refine held_take_at (some 129) (fun _ => trivial) (by kernel_rfl) (i := 27) (oi := _) (v := ?_) rfl (by kernel_rfl) (by kernel_rfl) (by kernel_rfl) (fun _ _ _ h => h) (by assumption) (Or.inl ⟨by kernel_rfl, ?_⟩) rfl ?_
        rotate_left
        · intro wz hSw; (first | (go_simp; done) | (go_simp; with_reducible rfl))
        (try simp only [Act.put, List.getElem_toArray, List.getElem_cons_zero, List.getElem_cons_succ, List.setIfInBounds_toArray, List.set_cons_zero, List.set_cons_succ])
        refine held_take_at (some 130) (fun _ => trivial) (by kernel_rfl) (i := 28) (oi := _) (v := ?_) rfl (by kernel_rfl) (by kernel_rfl) (by kernel_rfl) (fun _ _ _ h => h) (by assumption) (Or.inl ⟨by kernel_rfl, ?_⟩) rfl ?_
        rotate_left
        · intro wz hSw; (first | (go_simp; done) | (go_simp; with_reducible rfl))
        (try simp only [Act.put, List.getElem_toArray, List.getElem_cons_zero, List.getElem_cons_succ, List.setIfInBounds_toArray, List.set_cons_zero, List.set_cons_succ])
        refine held_take_at (some 131) (fun _ => trivial) (by kernel_rfl) (i := 29) (oi := _) (v := ?_) rfl (by kernel_rfl) (by kernel_rfl) (by kernel_rfl) (fun _ _ _ h => h) (by assumption) (Or.inl ⟨by kernel_rfl, ?_⟩) rfl ?_
        rotate_left
        · intro wz hSw; (first | (go_simp; done) | (go_simp; with_reducible rfl))
        (try simp only [Act.put, List.getElem_toArray, List.getElem_cons_zero, List.getElem_cons_succ, List.setIfInBounds_toArray, List.set_cons_zero, List.set_cons_succ])
        refine held_take_at (some 132) (fun _ => trivial) (by kernel_rfl) (i := 30) (oi := _) (v := ?_) rfl (by kernel_rfl) (by kernel_rfl) (by kernel_rfl) (fun _ _ _ h => h) (by assumption) (Or.inl ⟨by kernel_rfl, ?_⟩) rfl ?_
        rotate_left
        · intro wz hSw; (first | (go_simp; done) | (go_simp; with_reducible rfl))
        (try simp only [Act.put, List.getElem_toArray, List.getElem_cons_zero, List.getElem_cons_succ, List.setIfInBounds_toArray, List.set_cons_zero, List.set_cons_succ])
        refine held_take_at (some 133) (fun _ => trivial) (by kernel_rfl) (i := 31) (oi := _) (v := ?_) rfl (by kernel_rfl) (by kernel_rfl) (by kernel_rfl) (fun _ _ _ h => h) (by assumption) (Or.inl ⟨by kernel_rfl, ?_⟩) rfl ?_
        rotate_left
        · intro wz hSw; (first | (go_simp; done) | (go_simp; with_reducible rfl))
        (try simp only [Act.put, List.getElem_toArray, List.getElem_cons_zero, List.getElem_cons_succ, List.setIfInBounds_toArray, List.set_cons_zero, List.set_cons_succ])
        refine held_take_at (some 134) (fun _ => trivial) (by kernel_rfl) (i := 32) (oi := _) (v := .agg #[.int .i64 xh, .int .u64 xl]) rfl (by kernel_rfl) (by kernel_rfl) (by kernel_rfl) (fun _ _ _ h => h) (by assumption) (Or.inl ⟨by kernel_rfl, ?_⟩) rfl ?_
        · intro wz hSw; exact exec_load_row 24 (.tmp 6) (by kernel_rfl) (w.heap.size) (by kernel_rfl) _ _ _ _ (WideAt.below hSw Rx.out) Try.underlying24 (by kernel_rfl) (by kernel_rfl)
        (try simp only [Act.put, List.getElem_toArray, List.getElem_cons_zero, List.getElem_cons_succ, List.setIfInBounds_toArray, List.set_cons_zero, List.set_cons_succ])
        refine held_take_at (some 135) (fun _ => trivial) (by kernel_rfl) (i := 33) (oi := _) (v := .agg #[.int .i64 yh, .int .u64 yl]) rfl (by kernel_rfl) (by kernel_rfl) (by kernel_rfl) (fun _ _ _ h => h) (by assumption) (Or.inl ⟨by kernel_rfl, ?_⟩) rfl ?_
        · intro wz hSw; exact exec_load_row 24 (.tmp 7) (by kernel_rfl) (w.heap.size + 1) (by kernel_rfl) _ _ _ _ (WideAt.below hSw Ry.out) Try.underlying24 (by kernel_rfl) (by kernel_rfl)
        (try simp only [Act.put, List.getElem_toArray, List.getElem_cons_zero, List.getElem_cons_succ, List.setIfInBounds_toArray, List.set_cons_zero, List.set_cons_succ])
        refine held_take_at (some 137) (fun _ => trivial) (by kernel_rfl) (i := 35) (oi := _) (v := ?_) rfl (by kernel_rfl) (by kernel_rfl) (by kernel_rfl) (fun _ _ _ h => h) (by assumption) (Or.inl ⟨by kernel_rfl, ?_⟩) rfl ?_
        rotate_left
        · intro wz hSw; (first | (go_simp; done) | (go_simp; with_reducible rfl))
        (try simp only [Act.put, List.getElem_toArray, List.getElem_cons_zero, List.getElem_cons_succ, List.setIfInBounds_toArray, List.set_cons_zero, List.set_cons_succ])
        refine held_step (fun _ => trivial) (i := 34) (o := _) (by kernel_rfl) rfl (fun K hK => ?_)
        go_simp
        refine ⟨trivial, callsIn_wide.2 ((cWC.out _).mono ?_)⟩
        rintro e y12 ⟨rfl, hc12⟩
        dsimp only
        refine hK.out _ _ (bnext hHeld hc12) (fun hHeld => ?_)
        clear hK K
        (try simp only [Act.put, List.getElem_toArray, List.getElem_cons_zero, List.getElem_cons_succ, List.setIfInBounds_toArray, List.set_cons_zero, List.set_cons_succ])
        refine held_take_at (some 138) (fun _ => trivial) (by kernel_rfl) (i := 36) (oi := _) (v := ?_) rfl (by kernel_rfl) (by kernel_rfl) (by kernel_rfl) (fun _ _ _ h => h) (by assumption) (Or.inl ⟨by kernel_rfl, ?_⟩) rfl ?_
        rotate_left
        · intro wz hSw; (first | (go_simp; done) | (go_simp; with_reducible rfl))
        (try simp only [Act.put, List.getElem_toArray, List.getElem_cons_zero, List.getElem_cons_succ, List.setIfInBounds_toArray, List.set_cons_zero, List.set_cons_succ])
        refine held_take_at (some 139) (fun _ => trivial) (by kernel_rfl) (i := 37) (oi := _) (v := ?_) rfl (by kernel_rfl) (by kernel_rfl) (by kernel_rfl) (fun _ _ _ h => h) (by assumption) (Or.inl ⟨by kernel_rfl, ?_⟩) rfl ?_
        rotate_left
        · intro wz hSw; (first | (go_simp; done) | (go_simp; with_reducible rfl))
        (try simp only [Act.put, List.getElem_toArray, List.getElem_cons_zero, List.getElem_cons_succ, List.setIfInBounds_toArray, List.set_cons_zero, List.set_cons_succ])
        refine held_take_at (some 140) (fun _ => trivial) (by kernel_rfl) (i := 38) (oi := _) (v := ?_) rfl (by kernel_rfl) (by kernel_rfl) (by kernel_rfl) (fun _ _ _ h => h) (by assumption) (Or.inl ⟨by kernel_rfl, ?_⟩) rfl ?_
        rotate_left
        · intro wz hSw; (first | (go_simp; done) | (go_simp; with_reducible rfl))
        (try simp only [Act.put, List.getElem_toArray, List.getElem_cons_zero, List.getElem_cons_succ, List.setIfInBounds_toArray, List.set_cons_zero, List.set_cons_succ])
        refine held_take_at (some 141) (fun _ => trivial) (by kernel_rfl) (i := 39) (oi := _) (v := .agg #[.int .i64 xh, .int .u64 xl]) rfl (by kernel_rfl) (by kernel_rfl) (by kernel_rfl) (fun _ _ _ h => h) (by assumption) (Or.inl ⟨by kernel_rfl, ?_⟩) rfl ?_
        · intro wz hSw; exact exec_load_row 24 (.tmp 6) (by kernel_rfl) (w.heap.size) (by kernel_rfl) _ _ _ _ (WideAt.below hSw Rx.out) Try.underlying24 (by kernel_rfl) (by kernel_rfl)
        (try simp only [Act.put, List.getElem_toArray, List.getElem_cons_zero, List.getElem_cons_succ, List.setIfInBounds_toArray, List.set_cons_zero, List.set_cons_succ])
        refine held_take_at (some 143) (fun _ => trivial) (by kernel_rfl) (i := 41) (oi := _) (v := .agg #[.int .i64 xh, .int .u64 xl]) rfl (by kernel_rfl) (by kernel_rfl) (by kernel_rfl) (fun _ _ _ h => h) (by assumption) (Or.inl ⟨by kernel_rfl, ?_⟩) rfl ?_
        · intro wz hSw; exact exec_load_row 24 (.tmp 6) (by kernel_rfl) (w.heap.size) (by kernel_rfl) _ _ _ _ (WideAt.below hSw Rx.out) Try.underlying24 (by kernel_rfl) (by kernel_rfl)
        (try simp only [Act.put, List.getElem_toArray, List.getElem_cons_zero, List.getElem_cons_succ, List.setIfInBounds_toArray, List.set_cons_zero, List.set_cons_succ])
        refine held_take_at (some 144) (fun _ => trivial) (by kernel_rfl) (i := 42) (oi := _) (v := ?_) rfl (by kernel_rfl) (by kernel_rfl) (by kernel_rfl) (fun _ _ _ h => h) (by assumption) (Or.inl ⟨by kernel_rfl, ?_⟩) rfl ?_
        rotate_left
        · intro wz hSw; (first | (go_simp; done) | (go_simp; with_reducible rfl))
        (try simp only [Act.put, List.getElem_toArray, List.getElem_cons_zero, List.getElem_cons_succ, List.setIfInBounds_toArray, List.set_cons_zero, List.set_cons_succ])
        refine held_step (fun _ => trivial) (i := 40) (o := _) (by kernel_rfl) rfl (fun K hK => ?_)
        go_simp
        refine ⟨trivial, callsIn_wide.2 ((cWG.out _).mono ?_)⟩
        rintro e y13 ⟨rfl, hc13⟩
        dsimp only
        refine hK.out _ _ (bnext hHeld hc13) (fun hHeld => ?_)
        clear hK K
        (try simp only [Act.put, List.getElem_toArray, List.getElem_cons_zero, List.getElem_cons_succ, List.setIfInBounds_toArray, List.set_cons_zero, List.set_cons_succ])
        refine held_step (fun _ => trivial) (i := 43) (o := _) (by kernel_rfl) rfl (fun K hK => ?_)
        go_simp
        refine ⟨trivial, callsIn_wide.2 ((cWZ.out _).mono ?_)⟩
        rintro e y14 ⟨rfl, hc14⟩
        dsimp only
        refine hK.out _ _ (bnext hHeld hc14) (fun hHeld => ?_)
        clear hK K
        (try simp only [Act.put, List.getElem_toArray, List.getElem_cons_zero, List.getElem_cons_succ, List.setIfInBounds_toArray, List.set_cons_zero, List.set_cons_succ])
        refine held_take_at (some 146) (fun _ => trivial) (by kernel_rfl) (i := 44) (oi := _) (v := ?_) rfl (by kernel_rfl) (by kernel_rfl) (by kernel_rfl) (fun _ _ _ h => h) (by assumption) (Or.inl ⟨by kernel_rfl, ?_⟩) rfl ?_
        rotate_left
        · intro wz hSw; (first | (go_simp; done) | (go_simp; with_reducible rfl))
        (try simp only [Act.put, List.getElem_toArray, List.getElem_cons_zero, List.getElem_cons_succ, List.setIfInBounds_toArray, List.set_cons_zero, List.set_cons_succ])
        refine held_take_at (some 147) (fun _ => trivial) (by kernel_rfl) (i := 45) (oi := _) (v := ?_) rfl (by kernel_rfl) (by kernel_rfl) (by kernel_rfl) (fun _ _ _ h => h) (by assumption) (Or.inl ⟨by kernel_rfl, ?_⟩) rfl ?_
        rotate_left
        · intro wz hSw; (first | (go_simp; done) | (go_simp; with_reducible rfl))
        (try simp only [Act.put, List.getElem_toArray, List.getElem_cons_zero, List.getElem_cons_succ, List.setIfInBounds_toArray, List.set_cons_zero, List.set_cons_succ])
        refine held_take_at (some 148) (fun _ => trivial) (by kernel_rfl) (i := 46) (oi := _) (v := ?_) rfl (by kernel_rfl) (by kernel_rfl) (by kernel_rfl) (fun _ _ _ h => h) (by assumption) (Or.inl ⟨by kernel_rfl, ?_⟩) rfl ?_
        rotate_left
        · intro wz hSw; (first | (go_simp; done) | (go_simp; with_reducible rfl))
        (try simp only [Act.put, List.getElem_toArray, List.getElem_cons_zero, List.getElem_cons_succ, List.setIfInBounds_toArray, List.set_cons_zero, List.set_cons_succ])
        refine held_take_at (some 149) (fun _ => trivial) (by kernel_rfl) (i := 47) (oi := _) (v := ?_) rfl (by kernel_rfl) (by kernel_rfl) (by kernel_rfl) (fun _ _ _ h => h) (by assumption) (Or.inl ⟨by kernel_rfl, ?_⟩) rfl ?_
        rotate_left
        · intro wz hSw; (first | (go_simp; done) | (go_simp; with_reducible rfl))
        (try simp only [Act.put, List.getElem_toArray, List.getElem_cons_zero, List.getElem_cons_succ, List.setIfInBounds_toArray, List.set_cons_zero, List.set_cons_succ])
        refine held_take_at (some 150) (fun _ => trivial) (by kernel_rfl) (i := 48) (oi := _) (v := ?_) rfl (by kernel_rfl) (by kernel_rfl) (by kernel_rfl) (fun _ _ _ h => h) (by assumption) (Or.inl ⟨by kernel_rfl, ?_⟩) rfl ?_
        rotate_left
        · intro wz hSw; (first | (go_simp; done) | (go_simp; with_reducible rfl))
        (try simp only [Act.put, List.getElem_toArray, List.getElem_cons_zero, List.getElem_cons_succ, List.setIfInBounds_toArray, List.set_cons_zero, List.set_cons_succ])
        refine held_take_at (some 151) (fun _ => trivial) (by kernel_rfl) (i := 49) (oi := _) (v := ?_) rfl (by kernel_rfl) (by kernel_rfl) (by kernel_rfl) (fun _ _ _ h => h) (by assumption) (Or.inl ⟨by kernel_rfl, ?_⟩) rfl ?_
        rotate_left
        · intro wz hSw; (first | (go_simp; done) | (go_simp; with_reducible rfl))
        (try simp only [Act.put, List.getElem_toArray, List.getElem_cons_zero, List.getElem_cons_succ, List.setIfInBounds_toArray, List.set_cons_zero, List.set_cons_succ])
        refine held_take_at (some 152) (fun _ => trivial) (by kernel_rfl) (i := 50) (oi := _) (v := ?_) rfl (by kernel_rfl) (by kernel_rfl) (by kernel_rfl) (fun _ _ _ h => h) (by assumption) (Or.inl ⟨by kernel_rfl, ?_⟩) rfl ?_
        rotate_left
        · intro wz hSw; (first | (go_simp; done) | (go_simp; with_reducible rfl))
        (try simp only [Act.put, List.getElem_toArray, List.getElem_cons_zero, List.getElem_cons_succ, List.setIfInBounds_toArray, List.set_cons_zero, List.set_cons_succ])
        refine held_take_at (some 153) (fun _ => trivial) (by kernel_rfl) (i := 51) (oi := _) (v := ?_) rfl (by kernel_rfl) (by kernel_rfl) (by kernel_rfl) (fun _ _ _ h => h) (by assumption) (Or.inl ⟨by kernel_rfl, ?_⟩) rfl ?_
        rotate_left
        · intro wz hSw; (first | (go_simp; done) | (go_simp; with_reducible rfl))
        (try simp only [Act.put, List.getElem_toArray, List.getElem_cons_zero, List.getElem_cons_succ, List.setIfInBounds_toArray, List.set_cons_zero, List.set_cons_succ])
        refine held_take_at (some 154) (fun _ => trivial) (by kernel_rfl) (i := 52) (oi := _) (v := ?_) rfl (by kernel_rfl) (by kernel_rfl) (by kernel_rfl) (fun _ _ _ h => h) (by assumption) (Or.inl ⟨by kernel_rfl, ?_⟩) rfl ?_
        rotate_left
        · intro wz hSw; (first | (go_simp; done) | (go_simp; with_reducible rfl))
        (try simp only [Act.put, List.getElem_toArray, List.getElem_cons_zero, List.getElem_cons_succ, List.setIfInBounds_toArray, List.set_cons_zero, List.set_cons_succ])
        refine held_take_at (some 155) (fun _ => trivial) (by kernel_rfl) (i := 53) (oi := _) (v := ?_) rfl (by kernel_rfl) (by kernel_rfl) (by kernel_rfl) (fun _ _ _ h => h) (by assumption) (Or.inl ⟨by kernel_rfl, ?_⟩) rfl ?_
        rotate_left
        · intro wz hSw; (first | (go_simp; done) | (go_simp; with_reducible rfl))
        (try simp only [Act.put, List.getElem_toArray, List.getElem_cons_zero, List.getElem_cons_succ, List.setIfInBounds_toArray, List.set_cons_zero, List.set_cons_succ])
        refine held_take_at (some 156) (fun _ => trivial) (by kernel_rfl) (i := 54) (oi := _) (v := ?_) rfl (by kernel_rfl) (by kernel_rfl) (by kernel_rfl) (fun _ _ _ h => h) (by assumption) (Or.inl ⟨by kernel_rfl, ?_⟩) rfl ?_
        rotate_left
        · intro wz hSw; (first | (go_simp; done) | (go_simp; with_reducible rfl))
        (try simp only [Act.put, List.getElem_toArray, List.getElem_cons_zero, List.getElem_cons_succ, List.setIfInBounds_toArray, List.set_cons_zero, List.set_cons_succ])
        refine held_take_at (some 157) (fun _ => trivial) (by kernel_rfl) (i := 55) (oi := _) (v := undef) rfl (by kernel_rfl) (by kernel_rfl) (by kernel_rfl) (fun _ _ _ h => h) (by assumption) (Or.inr ⟨by kernel_rfl, rfl⟩) rfl ?_
        (try simp only [Act.put, List.getElem_toArray, List.getElem_cons_zero, List.getElem_cons_succ, List.setIfInBounds_toArray, List.set_cons_zero, List.set_cons_succ])
        refine held_take_at (some 158) (fun _ => trivial) (by kernel_rfl) (i := 56) (oi := _) (v := undef) rfl (by kernel_rfl) (by kernel_rfl) (by kernel_rfl) (fun _ _ _ h => h) (by assumption) (Or.inr ⟨by kernel_rfl, rfl⟩) rfl ?_
        (try simp only [Act.put, List.getElem_toArray, List.getElem_cons_zero, List.getElem_cons_succ, List.setIfInBounds_toArray, List.set_cons_zero, List.set_cons_succ])
        refine held_take_at (some 159) (fun _ => trivial) (by kernel_rfl) (i := 57) (oi := _) (v := undef) rfl (by kernel_rfl) (by kernel_rfl) (by kernel_rfl) (fun _ _ _ h => h) (by assumption) (Or.inr ⟨by kernel_rfl, rfl⟩) rfl ?_
        (try simp only [Act.put, List.getElem_toArray, List.getElem_cons_zero, List.getElem_cons_succ, List.setIfInBounds_toArray, List.set_cons_zero, List.set_cons_succ])
        refine held_take_at (some 160) (fun _ => trivial) (by kernel_rfl) (i := 58) (oi := _) (v := ?_) rfl (by kernel_rfl) (by kernel_rfl) (by kernel_rfl) (fun _ _ _ h => h) (by assumption) (Or.inl ⟨by kernel_rfl, ?_⟩) rfl ?_
        rotate_left
        · intro wz hSw; (first | (go_simp; done) | (go_simp; with_reducible rfl))
        (try simp only [Act.put, List.getElem_toArray, List.getElem_cons_zero, List.getElem_cons_succ, List.setIfInBounds_toArray, List.set_cons_zero, List.set_cons_succ])
        refine held_take_at (some 161) (fun _ => trivial) (by kernel_rfl) (i := 59) (oi := _) (v := ?_) rfl (by kernel_rfl) (by kernel_rfl) (by kernel_rfl) (fun _ _ _ h => h) (by assumption) (Or.inl ⟨by kernel_rfl, ?_⟩) rfl ?_
        rotate_left
        · intro wz hSw; (first | (go_simp; done) | (go_simp; with_reducible rfl))
        (try simp only [Act.put, List.getElem_toArray, List.getElem_cons_zero, List.getElem_cons_succ, List.setIfInBounds_toArray, List.set_cons_zero, List.set_cons_succ])
        refine held_take_at (some 162) (fun _ => trivial) (by kernel_rfl) (i := 60) (oi := _) (v := ?_) rfl (by kernel_rfl) (by kernel_rfl) (by kernel_rfl) (fun _ _ _ h => h) (by assumption) (Or.inl ⟨by kernel_rfl, ?_⟩) rfl ?_
        rotate_left
        · intro wz hSw; (first | (go_simp; done) | (go_simp; with_reducible rfl))
        (try simp only [Act.put, List.getElem_toArray, List.getElem_cons_zero, List.getElem_cons_succ, List.setIfInBounds_toArray, List.set_cons_zero, List.set_cons_succ])
        refine held_take_at (some 163) (fun _ => trivial) (by kernel_rfl) (i := 61) (oi := _) (v := ?_) rfl (by kernel_rfl) (by kernel_rfl) (by kernel_rfl) (fun _ _ _ h => h) (by assumption) (Or.inl ⟨by kernel_rfl, ?_⟩) rfl ?_
        rotate_left
        · intro wz hSw; (first | (go_simp; done) | (go_simp; with_reducible rfl))
        (try simp only [Act.put, List.getElem_toArray, List.getElem_cons_zero, List.getElem_cons_succ, List.setIfInBounds_toArray, List.set_cons_zero, List.set_cons_succ])
        refine held_take_at (some 164) (fun _ => trivial) (by kernel_rfl) (i := 62) (oi := _) (v := ?_) rfl (by kernel_rfl) (by kernel_rfl) (by kernel_rfl) (fun _ _ _ h => h) (by assumption) (Or.inl ⟨by kernel_rfl, ?_⟩) rfl ?_
        rotate_left
        · intro wz hSw; (first | (go_simp; done) | (go_simp; with_reducible rfl))
        (try simp only [Act.put, List.getElem_toArray, List.getElem_cons_zero, List.getElem_cons_succ, List.setIfInBounds_toArray, List.set_cons_zero, List.set_cons_succ])
        refine held_take_at (some 165) (fun _ => trivial) (by kernel_rfl) (i := 63) (oi := _) (v := ?_) rfl (by kernel_rfl) (by kernel_rfl) (by kernel_rfl) (fun _ _ _ h => h) (by assumption) (Or.inl ⟨by kernel_rfl, ?_⟩) rfl ?_
        rotate_left
        · intro wz hSw; (first | (go_simp; done) | (go_simp; with_reducible rfl))
        (try simp only [Act.put, List.getElem_toArray, List.getElem_cons_zero, List.getElem_cons_succ, List.setIfInBounds_toArray, List.set_cons_zero, List.set_cons_succ])
        refine held_take_at (some 166) (fun _ => trivial) (by kernel_rfl) (i := 64) (oi := _) (v := ?_) rfl (by kernel_rfl) (by kernel_rfl) (by kernel_rfl) (fun _ _ _ h => h) (by assumption) (Or.inl ⟨by kernel_rfl, ?_⟩) rfl ?_
        rotate_left
        · intro wz hSw; (first | (go_simp; done) | (go_simp; with_reducible rfl))
        (try simp only [Act.put, List.getElem_toArray, List.getElem_cons_zero, List.getElem_cons_succ, List.setIfInBounds_toArray, List.set_cons_zero, List.set_cons_succ])
        refine held_take_at (some 167) (fun _ => trivial) (by kernel_rfl) (i := 65) (oi := _) (v := ?_) rfl (by kernel_rfl) (by kernel_rfl) (by kernel_rfl) (fun _ _ _ h => h) (by assumption) (Or.inl ⟨by kernel_rfl, ?_⟩) rfl ?_
        rotate_left
        · intro wz hSw; (first | (go_simp; done) | (go_simp; with_reducible rfl))
        (try simp only [Act.put, List.getElem_toArray, List.getElem_cons_zero, List.getElem_cons_succ, List.setIfInBounds_toArray, List.set_cons_zero, List.set_cons_succ])
        refine held_take_at (some 168) (fun _ => trivial) (by kernel_rfl) (i := 66) (oi := _) (v := ?_) rfl (by kernel_rfl) (by kernel_rfl) (by kernel_rfl) (fun _ _ _ h => h) (by assumption) (Or.inl ⟨by kernel_rfl, ?_⟩) rfl ?_
        rotate_left
        · intro wz hSw; (first | (go_simp; done) | (go_simp; with_reducible rfl))
        (try simp only [Act.put, List.getElem_toArray, List.getElem_cons_zero, List.getElem_cons_succ, List.setIfInBounds_toArray, List.set_cons_zero, List.set_cons_succ])
        refine held_take_at (some 169) (fun _ => trivial) (by kernel_rfl) (i := 67) (oi := _) (v := ?_) rfl (by kernel_rfl) (by kernel_rfl) (by kernel_rfl) (fun _ _ _ h => h) (by assumption) (Or.inl ⟨by kernel_rfl, ?_⟩) rfl ?_
        rotate_left
        · intro wz hSw; (first | (go_simp; done) | (go_simp; with_reducible rfl))
        (try simp only [Act.put, List.getElem_toArray, List.getElem_cons_zero, List.getElem_cons_succ, List.setIfInBounds_toArray, List.set_cons_zero, List.set_cons_succ])
        refine held_take_at (some 170) (fun _ => trivial) (by kernel_rfl) (i := 68) (oi := _) (v := ?_) rfl (by kernel_rfl) (by kernel_rfl) (by kernel_rfl) (fun _ _ _ h => h) (by assumption) (Or.inl ⟨by kernel_rfl, ?_⟩) rfl ?_
        rotate_left
        · intro wz hSw; (first | (go_simp; done) | (go_simp; with_reducible rfl))
        (try simp only [Act.put, List.getElem_toArray, List.getElem_cons_zero, List.getElem_cons_succ, List.setIfInBounds_toArray, List.set_cons_zero, List.set_cons_succ])
        refine held_take_at (some 171) (fun _ => trivial) (by kernel_rfl) (i := 69) (oi := _) (v := ?_) rfl (by kernel_rfl) (by kernel_rfl) (by kernel_rfl) (fun _ _ _ h => h) (by assumption) (Or.inl ⟨by kernel_rfl, ?_⟩) rfl ?_
        rotate_left
        · intro wz hSw; (first | (go_simp; done) | (go_simp; with_reducible rfl))
        (try simp only [Act.put, List.getElem_toArray, List.getElem_cons_zero, List.getElem_cons_succ, List.setIfInBounds_toArray, List.set_cons_zero, List.set_cons_succ])
        refine held_take_at (some 172) (fun _ => trivial) (by kernel_rfl) (i := 70) (oi := _) (v := ?_) rfl (by kernel_rfl) (by kernel_rfl) (by kernel_rfl) (fun _ _ _ h => h) (by assumption) (Or.inl ⟨by kernel_rfl, ?_⟩) rfl ?_
        rotate_left
        · intro wz hSw; (first | (go_simp; done) | (go_simp; with_reducible rfl))
        (try simp only [Act.put, List.getElem_toArray, List.getElem_cons_zero, List.getElem_cons_succ, List.setIfInBounds_toArray, List.set_cons_zero, List.set_cons_succ])
        refine held_take_at (some 173) (fun _ => trivial) (by kernel_rfl) (i := 71) (oi := _) (v := ?_) rfl (by kernel_rfl) (by kernel_rfl) (by kernel_rfl) (fun _ _ _ h => h) (by assumption) (Or.inl ⟨by kernel_rfl, ?_⟩) rfl ?_
        rotate_left
        · intro wz hSw; (first | (go_simp; done) | (go_simp; with_reducible rfl))
        (try simp only [Act.put, List.getElem_toArray, List.getElem_cons_zero, List.getElem_cons_succ, List.setIfInBounds_toArray, List.set_cons_zero, List.set_cons_succ])
        refine held_take_at (some 8) (fun _ => trivial) (by kernel_rfl) (i := 72) (oi := _) (v := ?_) rfl (by kernel_rfl) (by kernel_rfl) (by kernel_rfl) (fun _ _ _ h => h) (by assumption) (Or.inl ⟨by kernel_rfl, ?_⟩) rfl ?_
        rotate_left
        · intro wz hSw; (first | (go_simp; done) | (go_simp; with_reducible rfl))
        (try simp only [Act.put, List.getElem_toArray, List.getElem_cons_zero, List.getElem_cons_succ, List.setIfInBounds_toArray, List.set_cons_zero, List.set_cons_succ])
        refine held_done (by kernel_rfl) ?_ _
        refine hK17 _ _ ?_
        have HE := Lib.hid (bnext HB.out hHeld)
        clear hHeld
        go_wp2_with fail
        go_ret
        exact ⟨rfl, HE.out⟩
      refine (cL2.out _).mono ?_
      rintro e w14 ⟨rfl, hbn⟩
      clear hKd
      cases b2 with
      | true =>
        go_wp2_with fail
        have e : c = 1 := by simpa using hc.out
        subst e
        exact HB2 _ hbn
      | false =>
        go_wp2_with fail
        have e : c = c1 := by rw [hc1.out]; simpa using hc.out
        subst e
        exact HB2 _ hbn
    refine (cL1.out _).mono ?_
    rintro e w13 ⟨rfl, hbn⟩
    clear hKa
    cases b1 with
    | true =>
      go_wp2_with fail
      exact HA (-1) _ (Lib.hid rfl) hbn
    | false =>
      go_wp2_with fail
      exact HA 0 _ (Lib.hid rfl) hbn
  refine (wpIn_wide (n := 5)).1 (held_region (F := Fence.wide) (S := fun X => Below V.heap.size V X) (by kernel_rfl) (bdrew0 _ _ 1) (fun hHeld => ?_))
  refine held_take (fun _ => trivial) (by kernel_rfl) (i := 0) (oi := _) (v := .agg (bv X)) rfl (by kernel_rfl) (by kernel_rfl) (by kernel_rfl) (fun _ _ _ h => h) (by assumption) (Or.inl ⟨by kernel_rfl, ?_⟩) ?_
  · intro wz hSw; exact exec_load_row 27 (.tmp 9) (by kernel_rfl) (w1.heap.size) (by kernel_rfl) _ _ _ _ (BigAt.below hSw RP.out) Try.underlying27 (by kernel_rfl) (bv_info _)
  (try simp only [Act.put, List.getElem_toArray, List.getElem_cons_zero, List.getElem_cons_succ, List.setIfInBounds_toArray, List.set_cons_zero, List.set_cons_succ])
  refine held_take (fun _ => trivial) (by kernel_rfl) (i := 1) (oi := _) (v := .agg (bv Y)) rfl (by kernel_rfl) (by kernel_rfl) (by kernel_rfl) (fun _ _ _ h => h) (by assumption) (Or.inl ⟨by kernel_rfl, ?_⟩) ?_
  · intro wz hSw; exact exec_load_row 27 (.tmp 10) (by kernel_rfl) (w2.heap.size) (by kernel_rfl) _ _ _ _ (BigAt.below hSw RQ.out) Try.underlying27 (by kernel_rfl) (bv_info _)
  (try simp only [Act.put, List.getElem_toArray, List.getElem_cons_zero, List.getElem_cons_succ, List.setIfInBounds_toArray, List.set_cons_zero, List.set_cons_succ])
  refine held_step2 (fun _ => trivial) (i := 2) (j := 8) (o := _) (o2 := _) (by kernel_rfl) rfl rfl (fun K hK => ?_) (fun K hK => ?_)
  · go_simp
    refine ⟨trivial, callsIn_wide.2 ((cN.out _).mono ?_)⟩
    rintro e x1 ⟨rfl, hb1⟩
    dsimp only
    refine hK.out _ _ (bnext hHeld hb1) (fun hHeld => ?_)
    clear hK K
    (try simp only [Act.put, List.getElem_toArray, List.getElem_cons_zero, List.getElem_cons_succ, List.setIfInBounds_toArray, List.set_cons_zero, List.set_cons_succ])
    refine held_step2 (fun _ => trivial) (i := 3) (j := 8) (o := _) (o2 := _) (by kernel_rfl) rfl rfl (fun K hK => ?_) (fun K hK => ?_)
    · go_simp
      refine ⟨trivial, callsIn_wide.2 ((cA2.out _).mono ?_)⟩
      rintro e x2 ⟨rfl, hb2⟩
      dsimp only
      refine hK.out _ _ (bnext hHeld hb2) (fun hHeld => ?_)
      clear hK K
      (try simp only [Act.put, List.getElem_toArray, List.getElem_cons_zero, List.getElem_cons_succ, List.setIfInBounds_toArray, List.set_cons_zero, List.set_cons_succ])
      refine held_step2 (fun _ => trivial) (i := 4) (j := 8) (o := _) (o2 := _) (by kernel_rfl) rfl rfl (fun K hK => ?_) (fun K hK => ?_)
      · go_simp
        refine ⟨trivial, callsIn_wide.2 ((cC2.out _).mono ?_)⟩
        rintro e x3 ⟨rfl, hb3⟩
        dsimp only
        refine hK.out _ _ (bnext hHeld hb3) (fun hHeld => ?_)
        clear hK K
        (try simp only [Act.put, List.getElem_toArray, List.getElem_cons_zero, List.getElem_cons_succ, List.setIfInBounds_toArray, List.set_cons_zero, List.set_cons_succ])
        refine held_take (fun _ => trivial) (by kernel_rfl) (i := 5) (oi := _) (v := ?_) rfl (by kernel_rfl) (by kernel_rfl) (by kernel_rfl) (fun _ _ _ h => h) (by assumption) (Or.inl ⟨by kernel_rfl, ?_⟩) ?_
        rotate_left
        · intro wz hSw; (first | (go_simp; done) | (go_simp; with_reducible rfl))
        (try simp only [Act.put, List.getElem_toArray, List.getElem_cons_zero, List.getElem_cons_succ, List.setIfInBounds_toArray, List.set_cons_zero, List.set_cons_succ])
        refine held_take (fun _ => trivial) (by kernel_rfl) (i := 6) (oi := _) (v := ?_) rfl (by kernel_rfl) (by kernel_rfl) (by kernel_rfl) (fun _ _ _ h => h) (by assumption) (Or.inl ⟨by kernel_rfl, ?_⟩) ?_
        rotate_left
        · intro wz hSw; (first | (go_simp; done) | (go_simp; with_reducible rfl))
        (try simp only [Act.put, List.getElem_toArray, List.getElem_cons_zero, List.getElem_cons_succ, List.setIfInBounds_toArray, List.set_cons_zero, List.set_cons_succ])
        refine held_take (fun _ => trivial) (by kernel_rfl) (i := 7) (oi := _) (v := ?_) rfl (by kernel_rfl) (by kernel_rfl) (by kernel_rfl) (fun _ _ _ h => h) (by assumption) (Or.inl ⟨by kernel_rfl, ?_⟩) ?_
        rotate_left
        · intro wz hSw; (first | (go_simp; done) | (go_simp; with_reducible rfl))
        (try simp only [Act.put, List.getElem_toArray, List.getElem_cons_zero, List.getElem_cons_succ, List.setIfInBounds_toArray, List.set_cons_zero, List.set_cons_succ])
        refine held_step (fun _ => trivial) (i := 8) (o := _) (by kernel_rfl) rfl (fun K hK => ?_)
        have hBq : V.heap.size ≤ x3.heap.size := hHeld.size
        go_simp
        have hrow := heap_alloc_new (x3) ((.cells #[.int .i64 0, .int .u64 0] 24))
        refine hK.out _ _ (hHeld.alloc hHeld.size _) (fun hHeld => ?_)
        clear hK K
        (try simp only [Act.put, List.getElem_toArray, List.getElem_cons_zero, List.getElem_cons_succ, List.setIfInBounds_toArray, List.set_cons_zero, List.set_cons_succ])
        refine held_step (fun _ => trivial) (i := 9) (o := _) (by kernel_rfl) rfl (fun K hK => ?_)
        rw [if_pos (by kernel_rfl)]
        refine wpIn_store_row (fun _ => trivial) 24 (.tmp 21) (.tmp 73) (by kernel_rfl) (x3.heap.size) _ _ (#[.int .i64 uh, .int .u64 ul]) (by kernel_rfl) (by kernel_rfl) hrow (by kernel_rfl) rfl (wide_one _ _) ?_
        refine hK.out _ _ (Below.row hHeld hBq _) (fun hHeld => ?_)
        clear hK K
        (try simp only [Act.put, List.getElem_toArray, List.getElem_cons_zero, List.getElem_cons_succ, List.setIfInBounds_toArray, List.set_cons_zero, List.set_cons_succ])
        refine held_take (fun _ => trivial) (by kernel_rfl) (i := 10) (oi := _) (v := ?_) rfl (by kernel_rfl) (by kernel_rfl) (by kernel_rfl) (fun _ _ _ h => h) (by assumption) (Or.inl ⟨by kernel_rfl, ?_⟩) ?_
        rotate_left
        · intro wz hSw; (first | (go_simp; done) | (go_simp; with_reducible rfl))
        (try simp only [Act.put, List.getElem_toArray, List.getElem_cons_zero, List.getElem_cons_succ, List.setIfInBounds_toArray, List.set_cons_zero, List.set_cons_succ])
        refine held_done (by kernel_rfl) ?_ _
        exact HT8 (x3.heap.size) _ (setRow_heap _ _ _ _ _ _ hrow) hHeld
      · have hBq : V.heap.size ≤ x2.heap.size := hHeld.size
        go_simp
        have hrow := heap_alloc_new (x2) ((.cells #[.int .i64 0, .int .u64 0] 24))
        refine hK.out _ _ (hHeld.alloc hHeld.size _) (fun hHeld => ?_)
        clear hK K
        (try simp only [Act.put, List.getElem_toArray, List.getElem_cons_zero, List.getElem_cons_succ, List.setIfInBounds_toArray, List.set_cons_zero, List.set_cons_succ])
        refine held_step (fun _ => trivial) (i := 4) (o := _) (by kernel_rfl) rfl (fun K hK => ?_)
        go_simp
        refine ⟨trivial, callsIn_wide.2 ((cC2.out _).mono ?_)⟩
        rintro e x3 ⟨rfl, hb3⟩
        dsimp only
        replace hrow := keep_row hb3 hrow
        refine hK.out _ _ (bnext hHeld hb3) (fun hHeld => ?_)
        clear hK K
        (try simp only [Act.put, List.getElem_toArray, List.getElem_cons_zero, List.getElem_cons_succ, List.setIfInBounds_toArray, List.set_cons_zero, List.set_cons_succ])
        refine held_take (fun _ => trivial) (by kernel_rfl) (i := 5) (oi := _) (v := ?_) rfl (by kernel_rfl) (by kernel_rfl) (by kernel_rfl) (fun _ _ _ h => h) (by assumption) (Or.inl ⟨by kernel_rfl, ?_⟩) ?_
        rotate_left
        · intro wz hSw; (first | (go_simp; done) | (go_simp; with_reducible rfl))
        (try simp only [Act.put, List.getElem_toArray, List.getElem_cons_zero, List.getElem_cons_succ, List.setIfInBounds_toArray, List.set_cons_zero, List.set_cons_succ])
        refine held_take (fun _ => trivial) (by kernel_rfl) (i := 6) (oi := _) (v := ?_) rfl (by kernel_rfl) (by kernel_rfl) (by kernel_rfl) (fun _ _ _ h => h) (by assumption) (Or.inl ⟨by kernel_rfl, ?_⟩) ?_
        rotate_left
        · intro wz hSw; (first | (go_simp; done) | (go_simp; with_reducible rfl))
        (try simp only [Act.put, List.getElem_toArray, List.getElem_cons_zero, List.getElem_cons_succ, List.setIfInBounds_toArray, List.set_cons_zero, List.set_cons_succ])
        refine held_take (fun _ => trivial) (by kernel_rfl) (i := 7) (oi := _) (v := ?_) rfl (by kernel_rfl) (by kernel_rfl) (by kernel_rfl) (fun _ _ _ h => h) (by assumption) (Or.inl ⟨by kernel_rfl, ?_⟩) ?_
        rotate_left
        · intro wz hSw; (first | (go_simp; done) | (go_simp; with_reducible rfl))
        (try simp only [Act.put, List.getElem_toArray, List.getElem_cons_zero, List.getElem_cons_succ, List.setIfInBounds_toArray, List.set_cons_zero, List.set_cons_succ])
        refine held_step (fun _ => trivial) (i := 9) (o := _) (by kernel_rfl) rfl (fun K hK => ?_)
        rw [if_pos (by kernel_rfl)]
        refine wpIn_store_row (fun _ => trivial) 24 (.tmp 21) (.tmp 73) (by kernel_rfl) (x2.heap.size) _ _ (#[.int .i64 uh, .int .u64 ul]) (by kernel_rfl) (by kernel_rfl) hrow (by kernel_rfl) rfl (wide_one _ _) ?_
        refine hK.out _ _ (Below.row hHeld hBq _) (fun hHeld => ?_)
        clear hK K
        (try simp only [Act.put, List.getElem_toArray, List.getElem_cons_zero, List.getElem_cons_succ, List.setIfInBounds_toArray, List.set_cons_zero, List.set_cons_succ])
        refine held_take (fun _ => trivial) (by kernel_rfl) (i := 10) (oi := _) (v := ?_) rfl (by kernel_rfl) (by kernel_rfl) (by kernel_rfl) (fun _ _ _ h => h) (by assumption) (Or.inl ⟨by kernel_rfl, ?_⟩) ?_
        rotate_left
        · intro wz hSw; (first | (go_simp; done) | (go_simp; with_reducible rfl))
        (try simp only [Act.put, List.getElem_toArray, List.getElem_cons_zero, List.getElem_cons_succ, List.setIfInBounds_toArray, List.set_cons_zero, List.set_cons_succ])
        refine held_done (by kernel_rfl) ?_ _
        exact HT8 (x2.heap.size) _ (setRow_heap _ _ _ _ _ _ hrow) hHeld
    · have hBq : V.heap.size ≤ x1.heap.size := hHeld.size
      go_simp
      have hrow := heap_alloc_new (x1) ((.cells #[.int .i64 0, .int .u64 0] 24))
      refine hK.out _ _ (hHeld.alloc hHeld.size _) (fun hHeld => ?_)
      clear hK K
      (try simp only [Act.put, List.getElem_toArray, List.getElem_cons_zero, List.getElem_cons_succ, List.setIfInBounds_toArray, List.set_cons_zero, List.set_cons_succ])
      refine held_step (fun _ => trivial) (i := 3) (o := _) (by kernel_rfl) rfl (fun K hK => ?_)
      go_simp
      refine ⟨trivial, callsIn_wide.2 ((cA2.out _).mono ?_)⟩
      rintro e x2 ⟨rfl, hb2⟩
      dsimp only
      replace hrow := keep_row hb2 hrow
      refine hK.out _ _ (bnext hHeld hb2) (fun hHeld => ?_)
      clear hK K
      (try simp only [Act.put, List.getElem_toArray, List.getElem_cons_zero, List.getElem_cons_succ, List.setIfInBounds_toArray, List.set_cons_zero, List.set_cons_succ])
      refine held_step (fun _ => trivial) (i := 4) (o := _) (by kernel_rfl) rfl (fun K hK => ?_)
      go_simp
      refine ⟨trivial, callsIn_wide.2 ((cC2.out _).mono ?_)⟩
      rintro e x3 ⟨rfl, hb3⟩
      dsimp only
      replace hrow := keep_row hb3 hrow
      refine hK.out _ _ (bnext hHeld hb3) (fun hHeld => ?_)
      clear hK K
      (try simp only [Act.put, List.getElem_toArray, List.getElem_cons_zero, List.getElem_cons_succ, List.setIfInBounds_toArray, List.set_cons_zero, List.set_cons_succ])
      refine held_take (fun _ => trivial) (by kernel_rfl) (i := 5) (oi := _) (v := ?_) rfl (by kernel_rfl) (by kernel_rfl) (by kernel_rfl) (fun _ _ _ h => h) (by assumption) (Or.inl ⟨by kernel_rfl, ?_⟩) ?_
      rotate_left
      · intro wz hSw; (first | (go_simp; done) | (go_simp; with_reducible rfl))
      (try simp only [Act.put, List.getElem_toArray, List.getElem_cons_zero, List.getElem_cons_succ, List.setIfInBounds_toArray, List.set_cons_zero, List.set_cons_succ])
      refine held_take (fun _ => trivial) (by kernel_rfl) (i := 6) (oi := _) (v := ?_) rfl (by kernel_rfl) (by kernel_rfl) (by kernel_rfl) (fun _ _ _ h => h) (by assumption) (Or.inl ⟨by kernel_rfl, ?_⟩) ?_
      rotate_left
      · intro wz hSw; (first | (go_simp; done) | (go_simp; with_reducible rfl))
      (try simp only [Act.put, List.getElem_toArray, List.getElem_cons_zero, List.getElem_cons_succ, List.setIfInBounds_toArray, List.set_cons_zero, List.set_cons_succ])
      refine held_take (fun _ => trivial) (by kernel_rfl) (i := 7) (oi := _) (v := ?_) rfl (by kernel_rfl) (by kernel_rfl) (by kernel_rfl) (fun _ _ _ h => h) (by assumption) (Or.inl ⟨by kernel_rfl, ?_⟩) ?_
      rotate_left
      · intro wz hSw; (first | (go_simp; done) | (go_simp; with_reducible rfl))
      (try simp only [Act.put, List.getElem_toArray, List.getElem_cons_zero, List.getElem_cons_succ, List.setIfInBounds_toArray, List.set_cons_zero, List.set_cons_succ])
      refine held_step (fun _ => trivial) (i := 9) (o := _) (by kernel_rfl) rfl (fun K hK => ?_)
      rw [if_pos (by kernel_rfl)]
      refine wpIn_store_row (fun _ => trivial) 24 (.tmp 21) (.tmp 73) (by kernel_rfl) (x1.heap.size) _ _ (#[.int .i64 uh, .int .u64 ul]) (by kernel_rfl) (by kernel_rfl) hrow (by kernel_rfl) rfl (wide_one _ _) ?_
      refine hK.out _ _ (Below.row hHeld hBq _) (fun hHeld => ?_)
      clear hK K
      (try simp only [Act.put, List.getElem_toArray, List.getElem_cons_zero, List.getElem_cons_succ, List.setIfInBounds_toArray, List.set_cons_zero, List.set_cons_succ])
      refine held_take (fun _ => trivial) (by kernel_rfl) (i := 10) (oi := _) (v := ?_) rfl (by kernel_rfl) (by kernel_rfl) (by kernel_rfl) (fun _ _ _ h => h) (by assumption) (Or.inl ⟨by kernel_rfl, ?_⟩) ?_
      rotate_left
      · intro wz hSw; (first | (go_simp; done) | (go_simp; with_reducible rfl))
      (try simp only [Act.put, List.getElem_toArray, List.getElem_cons_zero, List.getElem_cons_succ, List.setIfInBounds_toArray, List.set_cons_zero, List.set_cons_succ])
      refine held_done (by kernel_rfl) ?_ _
      exact HT8 (x1.heap.size) _ (setRow_heap _ _ _ _ _ _ hrow) hHeld
  · have hBq : V.heap.size ≤ V.heap.size := hHeld.size
    go_simp
    have hrow := heap_alloc_new (V.drew) ((.cells #[.int .i64 0, .int .u64 0] 24))
    refine hK.out _ _ (hHeld.alloc hHeld.size _) (fun hHeld => ?_)
    clear hK K
    (try simp only [Act.put, List.getElem_toArray, List.getElem_cons_zero, List.getElem_cons_succ, List.setIfInBounds_toArray, List.set_cons_zero, List.set_cons_succ])
    refine held_step (fun _ => trivial) (i := 2) (o := _) (by kernel_rfl) rfl (fun K hK => ?_)
    go_simp
    refine ⟨trivial, callsIn_wide.2 ((cN.out _).mono ?_)⟩
    rintro e x1 ⟨rfl, hb1⟩
    dsimp only
    replace hrow := keep_row hb1 hrow
    refine hK.out _ _ (bnext hHeld hb1) (fun hHeld => ?_)
    clear hK K
    (try simp only [Act.put, List.getElem_toArray, List.getElem_cons_zero, List.getElem_cons_succ, List.setIfInBounds_toArray, List.set_cons_zero, List.set_cons_succ])
    refine held_step (fun _ => trivial) (i := 3) (o := _) (by kernel_rfl) rfl (fun K hK => ?_)
    go_simp
    refine ⟨trivial, callsIn_wide.2 ((cA2.out _).mono ?_)⟩
    rintro e x2 ⟨rfl, hb2⟩
    dsimp only
    replace hrow := keep_row hb2 hrow
    refine hK.out _ _ (bnext hHeld hb2) (fun hHeld => ?_)
    clear hK K
    (try simp only [Act.put, List.getElem_toArray, List.getElem_cons_zero, List.getElem_cons_succ, List.setIfInBounds_toArray, List.set_cons_zero, List.set_cons_succ])
    refine held_step (fun _ => trivial) (i := 4) (o := _) (by kernel_rfl) rfl (fun K hK => ?_)
    go_simp
    refine ⟨trivial, callsIn_wide.2 ((cC2.out _).mono ?_)⟩
    rintro e x3 ⟨rfl, hb3⟩
    dsimp only
    replace hrow := keep_row hb3 hrow
    refine hK.out _ _ (bnext hHeld hb3) (fun hHeld => ?_)
    clear hK K
    (try simp only [Act.put, List.getElem_toArray, List.getElem_cons_zero, List.getElem_cons_succ, List.setIfInBounds_toArray, List.set_cons_zero, List.set_cons_succ])
    refine held_take (fun _ => trivial) (by kernel_rfl) (i := 5) (oi := _) (v := ?_) rfl (by kernel_rfl) (by kernel_rfl) (by kernel_rfl) (fun _ _ _ h => h) (by assumption) (Or.inl ⟨by kernel_rfl, ?_⟩) ?_
    rotate_left
    · intro wz hSw; (first | (go_simp; done) | (go_simp; with_reducible rfl))
    (try simp only [Act.put, List.getElem_toArray, List.getElem_cons_zero, List.getElem_cons_succ, List.setIfInBounds_toArray, List.set_cons_zero, List.set_cons_succ])
    refine held_take (fun _ => trivial) (by kernel_rfl) (i := 6) (oi := _) (v := ?_) rfl (by kernel_rfl) (by kernel_rfl) (by kernel_rfl) (fun _ _ _ h => h) (by assumption) (Or.inl ⟨by kernel_rfl, ?_⟩) ?_
    rotate_left
    · intro wz hSw; (first | (go_simp; done) | (go_simp; with_reducible rfl))
    (try simp only [Act.put, List.getElem_toArray, List.getElem_cons_zero, List.getElem_cons_succ, List.setIfInBounds_toArray, List.set_cons_zero, List.set_cons_succ])
    refine held_take (fun _ => trivial) (by kernel_rfl) (i := 7) (oi := _) (v := ?_) rfl (by kernel_rfl) (by kernel_rfl) (by kernel_rfl) (fun _ _ _ h => h) (by assumption) (Or.inl ⟨by kernel_rfl, ?_⟩) ?_
    rotate_left
    · intro wz hSw; (first | (go_simp; done) | (go_simp; with_reducible rfl))
    (try simp only [Act.put, List.getElem_toArray, List.getElem_cons_zero, List.getElem_cons_succ, List.setIfInBounds_toArray, List.set_cons_zero, List.set_cons_succ])
    refine held_step (fun _ => trivial) (i := 9) (o := _) (by kernel_rfl) rfl (fun K hK => ?_)
    rw [if_pos (by kernel_rfl)]
    refine wpIn_store_row (fun _ => trivial) 24 (.tmp 21) (.tmp 73) (by kernel_rfl) (V.heap.size) _ _ (#[.int .i64 uh, .int .u64 ul]) (by kernel_rfl) (by kernel_rfl) hrow (by kernel_rfl) rfl (wide_one _ _) ?_
    refine hK.out _ _ (Below.row hHeld hBq _) (fun hHeld => ?_)
    clear hK K
    (try simp only [Act.put, List.getElem_toArray, List.getElem_cons_zero, List.getElem_cons_succ, List.setIfInBounds_toArray, List.set_cons_zero, List.set_cons_succ])
    refine held_take (fun _ => trivial) (by kernel_rfl) (i := 10) (oi := _) (v := ?_) rfl (by kernel_rfl) (by kernel_rfl) (by kernel_rfl) (fun _ _ _ h => h) (by assumption) (Or.inl ⟨by kernel_rfl, ?_⟩) ?_
    rotate_left
    · intro wz hSw; (first | (go_simp; done) | (go_simp; with_reducible rfl))
    (try simp only [Act.put, List.getElem_toArray, List.getElem_cons_zero, List.getElem_cons_succ, List.setIfInBounds_toArray, List.set_cons_zero, List.set_cons_succ])
    refine held_done (by kernel_rfl) ?_ _
    exact HT8 (V.heap.size) _ (setRow_heap _ _ _ _ _ _ hrow) hHeld
end Go.Proofs.Ytgkcbadfjhicnaa.Fx
