/- The document's powers of two, walked. -/
import Derived.Test.YtgkcbadfjhicnaaProg
import Derived.Test.YtgkcbadfjhicnaaBb
set_option linter.unusedVariables false
set_option linter.unusedSimpArgs false
namespace Go.Proofs.Ytgkcbadfjhicnaa.Fx
open Go Go.RowKit Wm
theorem big_put (neg : Bool) (d : List Nat) (q v : Nat) : (bigC neg d).setIfInBounds (1 + q) (.int .u64 (v : Int)) = bigC neg (d.set q v) := by
  unfold bigC
  rw [List.setIfInBounds_toArray, Nat.add_comm, List.set_cons_succ, List.map_set]
  rfl
structure TwI (q v : Nat) (w W : World) : Prop where
  br : W.heap[w.heap.size]? = some (.cells (bigC false zeros) 27 (0, 0))
  bz : W.heap[w.heap.size + 1]? = some (.cells (bigC false (zeros.set q v)) 27 (0, 0))
  below : Below w.heap.size w W
theorem TwI.next {q v : Nat} {w W : World} (h : TwI q v w W) (u : Nat) : TwI q u w (W.setCell ⟨w.heap.size + 1, 1 + q, none⟩ (.int .u64 (u : Int))) := by
  refine ⟨?_, ?_, h.below.setCell (p := ⟨w.heap.size + 1, 1 + q, none⟩) (by show _ ≤ w.heap.size + 1; omega) _⟩
  · rw [heap_setCell_other _ _ _ _ (by show _ ≠ w.heap.size + 1; omega)]; exact h.br
  · rw [heap_setCell_same _ _ _ _ _ _ h.bz, big_put, List.set_set]
theorem TwI.cell {q v : Nat} {w W : World} (h : TwI q v w W) (hq : q < 20) : W.cell? ⟨w.heap.size + 1, 1 + q, none⟩ = some (.int .u64 (v : Int)) ∧ W.frozen? ⟨w.heap.size + 1, 1 + q, none⟩ = false := by
  refine ⟨?_, frozen_row h.bz⟩
  rw [cell_of_row _ _ _ _ _ _ h.bz, big_at _ _ _ (by rw [List.length_set]; exact hq)]
  congr 3
  simp [List.getD_eq_getElem?_getD, hq, zeros]
theorem tw0 (q : Nat) (w : World) (hq : zeros.set q 0 = zeros) : TwI q 0 w ((w.alloc (.cells (bigC false zeros) 27)).alloc (.cells (bigC false zeros) 27)) :=
  ⟨step_row (heap_alloc_new _ _), by rw [hq]; exact heap_alloc2_new _ _ _, by go_grown⟩
set_option maxRecDepth 100000 in
set_option maxHeartbeats 4000000 in
theorem two_w63 (w : World) : Calls Try.prog 20 #[.int .i64 63] w (RetB false (dg (2 ^ 63)) w) := by
  have hI0 := tw0 3 w rfl
  have hI1 : TwI 3 1 w ((w.alloc (.cells (bigC false zeros) 27)).alloc (.cells (bigC false (zeros.set 3 1)) 27)) := ⟨step_row (heap_alloc_new _ _), heap_alloc2_new _ _ _, by go_grown⟩
  have c00 := (hI0.cell (by omega)).1
  have f00 := (hI0.cell (by omega)).2
  have hzr : bigC false zeros = #[.bool false, .int .u64 0, .int .u64 0, .int .u64 0, .int .u64 0, .int .u64 0, .int .u64 0, .int .u64 0, .int .u64 0, .int .u64 0, .int .u64 0, .int .u64 0, .int .u64 0, .int .u64 0, .int .u64 0, .int .u64 0, .int .u64 0, .int .u64 0, .int .u64 0, .int .u64 0, .int .u64 0] := rfl
  rw [hzr] at c00 f00
  have HI1 := Lib.hid hI1
  clear hI0 hI1 hzr
  go_enter Try.func20, Try.ntmps20
  go_wp2_with fail
  go_loopg [4] 15 (fun g s wr => ∃ k v : Nat, g = 15 - k ∧ s = .int .i64 (k : Int) ∧ k ≤ 15 ∧ v = 2 ^ k ∧ TwI 3 v w wr)
  case atStart => exact ⟨0, 1, rfl, rfl, by omega, rfl, HI1.out⟩
  case round =>
    clear HI1 c00 f00
    obtain ⟨k, v, rfl, rfl, hk4, hv, I⟩ := hrel
    by_cases hk : k < 15
    · have cz := (I.cell (by omega)).1
      have fz := (I.cell (by omega)).2
      have hvl : v ≤ 16384 := by
        rw [hv]
        exact Nat.pow_le_pow_right (n := 2) (by omega) (show k ≤ 14 by omega)
      have hv2 : v * 2 = 2 ^ (k + 1) := by rw [hv, Nat.pow_succ]
      have k1 : (k : Int) < 15 := by omega
      have hv3 : (v : Int) ≤ 16384 := by omega
      have I2 := I.next (v * 2)
      have HI2 := Lib.hid I2
      have HV2 := Lib.hid hv2
      clear I I2 hv hv2 hvl
      go_wp2_with fail
      go_roundg (15 - (k + 1))
      case measure => omega
      case rel =>
        refine ⟨k + 1, v * 2, rfl, by go_num, by omega, HV2.out, ?_⟩
        have := HI2.out
        simpa using this
    · have hke : k = 15 := by omega
      subst hke
      have hz : zeros.set 3 v = dg (2 ^ 63) := by rw [hv]; decide +kernel
      have bz := I.bz
      rw [hz] at bz
      have BZ := Lib.hid bz
      have BR := Lib.hid I.br
      have BL := Lib.hid I.below
      have HI := Lib.hid (big_info false (dg (2 ^ 63)) (dg_len _))
      have HS := Lib.hid (big_same false false zeros (dg (2 ^ 63)) rfl (dg_len _))
      clear I bz hz hv
      go_wp2_with (first | (refine wpList_load_row rfl 27 (.tmp 3) rfl (w.heap.size + 1) rfl _ _ _ _ BZ.out Try.underlying27 rfl HI.out ?_) | (refine wpList_store_big rfl 27 (.tmp 2) (.tmp 25) rfl w.heap.size _ _ (bigC false (dg (2 ^ 63))) rfl rfl BR.out HI.out HS.out (big_one _ _) ?_))
      refine bodyPost_ret (v := .agg (bigC false (dg (2 ^ 63)))) (results_cell_row rfl _ _ w.heap.size _ _ _ _ rfl (setRow_heap _ _ _ _ _ _ BR.out) Try.underlying27 rfl HI.out) rfl ?_
      exact ⟨rfl, Below.row BL.out (Nat.le_refl _) _⟩
set_option maxRecDepth 100000 in
set_option maxHeartbeats 4000000 in
theorem two_w64 (w : World) : Calls Try.prog 20 #[.int .i64 64] w (RetB false (dg (2 ^ 64)) w) := by
  have hI0 := tw0 4 w rfl
  have hI1 : TwI 4 1 w ((w.alloc (.cells (bigC false zeros) 27)).alloc (.cells (bigC false (zeros.set 4 1)) 27)) := ⟨step_row (heap_alloc_new _ _), heap_alloc2_new _ _ _, by go_grown⟩
  have c00 := (hI0.cell (by omega)).1
  have f00 := (hI0.cell (by omega)).2
  have hzr : bigC false zeros = #[.bool false, .int .u64 0, .int .u64 0, .int .u64 0, .int .u64 0, .int .u64 0, .int .u64 0, .int .u64 0, .int .u64 0, .int .u64 0, .int .u64 0, .int .u64 0, .int .u64 0, .int .u64 0, .int .u64 0, .int .u64 0, .int .u64 0, .int .u64 0, .int .u64 0, .int .u64 0, .int .u64 0] := rfl
  rw [hzr] at c00 f00
  have HI1 := Lib.hid hI1
  clear hI0 hI1 hzr
  go_enter Try.func20, Try.ntmps20
  go_wp2_with fail
  go_loopg [4] 0 (fun g s wr => ∃ k v : Nat, g = 0 - k ∧ s = .int .i64 (k : Int) ∧ k ≤ 0 ∧ v = 2 ^ k ∧ TwI 4 v w wr)
  case atStart => exact ⟨0, 1, rfl, rfl, by omega, rfl, HI1.out⟩
  case round =>
    clear HI1 c00 f00
    obtain ⟨k, v, rfl, rfl, hk4, hv, I⟩ := hrel
    have hke : k = 0 := by omega
    subst hke
    have hz : zeros.set 4 v = dg (2 ^ 64) := by rw [hv]; decide +kernel
    have bz := I.bz
    rw [hz] at bz
    have BZ := Lib.hid bz
    have BR := Lib.hid I.br
    have BL := Lib.hid I.below
    have HI := Lib.hid (big_info false (dg (2 ^ 64)) (dg_len _))
    have HS := Lib.hid (big_same false false zeros (dg (2 ^ 64)) rfl (dg_len _))
    clear I bz hz hv
    go_wp2_with (first | (refine wpList_load_row rfl 27 (.tmp 3) rfl (w.heap.size + 1) rfl _ _ _ _ BZ.out Try.underlying27 rfl HI.out ?_) | (refine wpList_store_big rfl 27 (.tmp 2) (.tmp 25) rfl w.heap.size _ _ (bigC false (dg (2 ^ 64))) rfl rfl BR.out HI.out HS.out (big_one _ _) ?_))
    refine bodyPost_ret (v := .agg (bigC false (dg (2 ^ 64)))) (results_cell_row rfl _ _ w.heap.size _ _ _ _ rfl (setRow_heap _ _ _ _ _ _ BR.out) Try.underlying27 rfl HI.out) rfl ?_
    exact ⟨rfl, Below.row BL.out (Nat.le_refl _) _⟩
set_option maxRecDepth 100000 in
set_option maxHeartbeats 4000000 in
theorem two_w127 (w : World) : Calls Try.prog 20 #[.int .i64 127] w (RetB false (dg (2 ^ 127)) w) := by
  have hI0 := tw0 7 w rfl
  have hI1 : TwI 7 1 w ((w.alloc (.cells (bigC false zeros) 27)).alloc (.cells (bigC false (zeros.set 7 1)) 27)) := ⟨step_row (heap_alloc_new _ _), heap_alloc2_new _ _ _, by go_grown⟩
  have c00 := (hI0.cell (by omega)).1
  have f00 := (hI0.cell (by omega)).2
  have hzr : bigC false zeros = #[.bool false, .int .u64 0, .int .u64 0, .int .u64 0, .int .u64 0, .int .u64 0, .int .u64 0, .int .u64 0, .int .u64 0, .int .u64 0, .int .u64 0, .int .u64 0, .int .u64 0, .int .u64 0, .int .u64 0, .int .u64 0, .int .u64 0, .int .u64 0, .int .u64 0, .int .u64 0, .int .u64 0] := rfl
  rw [hzr] at c00 f00
  have HI1 := Lib.hid hI1
  clear hI0 hI1 hzr
  go_enter Try.func20, Try.ntmps20
  go_wp2_with fail
  go_loopg [4] 15 (fun g s wr => ∃ k v : Nat, g = 15 - k ∧ s = .int .i64 (k : Int) ∧ k ≤ 15 ∧ v = 2 ^ k ∧ TwI 7 v w wr)
  case atStart => exact ⟨0, 1, rfl, rfl, by omega, rfl, HI1.out⟩
  case round =>
    clear HI1 c00 f00
    obtain ⟨k, v, rfl, rfl, hk4, hv, I⟩ := hrel
    by_cases hk : k < 15
    · have cz := (I.cell (by omega)).1
      have fz := (I.cell (by omega)).2
      have hvl : v ≤ 16384 := by
        rw [hv]
        exact Nat.pow_le_pow_right (n := 2) (by omega) (show k ≤ 14 by omega)
      have hv2 : v * 2 = 2 ^ (k + 1) := by rw [hv, Nat.pow_succ]
      have k1 : (k : Int) < 15 := by omega
      have hv3 : (v : Int) ≤ 16384 := by omega
      have I2 := I.next (v * 2)
      have HI2 := Lib.hid I2
      have HV2 := Lib.hid hv2
      clear I I2 hv hv2 hvl
      go_wp2_with fail
      go_roundg (15 - (k + 1))
      case measure => omega
      case rel =>
        refine ⟨k + 1, v * 2, rfl, by go_num, by omega, HV2.out, ?_⟩
        have := HI2.out
        simpa using this
    · have hke : k = 15 := by omega
      subst hke
      have hz : zeros.set 7 v = dg (2 ^ 127) := by rw [hv]; decide +kernel
      have bz := I.bz
      rw [hz] at bz
      have BZ := Lib.hid bz
      have BR := Lib.hid I.br
      have BL := Lib.hid I.below
      have HI := Lib.hid (big_info false (dg (2 ^ 127)) (dg_len _))
      have HS := Lib.hid (big_same false false zeros (dg (2 ^ 127)) rfl (dg_len _))
      clear I bz hz hv
      go_wp2_with (first | (refine wpList_load_row rfl 27 (.tmp 3) rfl (w.heap.size + 1) rfl _ _ _ _ BZ.out Try.underlying27 rfl HI.out ?_) | (refine wpList_store_big rfl 27 (.tmp 2) (.tmp 25) rfl w.heap.size _ _ (bigC false (dg (2 ^ 127))) rfl rfl BR.out HI.out HS.out (big_one _ _) ?_))
      refine bodyPost_ret (v := .agg (bigC false (dg (2 ^ 127)))) (results_cell_row rfl _ _ w.heap.size _ _ _ _ rfl (setRow_heap _ _ _ _ _ _ BR.out) Try.underlying27 rfl HI.out) rfl ?_
      exact ⟨rfl, Below.row BL.out (Nat.le_refl _) _⟩
set_option maxRecDepth 100000 in
set_option maxHeartbeats 4000000 in
theorem two_w128 (w : World) : Calls Try.prog 20 #[.int .i64 128] w (RetB false (dg (2 ^ 128)) w) := by
  have hI0 := tw0 8 w rfl
  have hI1 : TwI 8 1 w ((w.alloc (.cells (bigC false zeros) 27)).alloc (.cells (bigC false (zeros.set 8 1)) 27)) := ⟨step_row (heap_alloc_new _ _), heap_alloc2_new _ _ _, by go_grown⟩
  have c00 := (hI0.cell (by omega)).1
  have f00 := (hI0.cell (by omega)).2
  have hzr : bigC false zeros = #[.bool false, .int .u64 0, .int .u64 0, .int .u64 0, .int .u64 0, .int .u64 0, .int .u64 0, .int .u64 0, .int .u64 0, .int .u64 0, .int .u64 0, .int .u64 0, .int .u64 0, .int .u64 0, .int .u64 0, .int .u64 0, .int .u64 0, .int .u64 0, .int .u64 0, .int .u64 0, .int .u64 0] := rfl
  rw [hzr] at c00 f00
  have HI1 := Lib.hid hI1
  clear hI0 hI1 hzr
  go_enter Try.func20, Try.ntmps20
  go_wp2_with fail
  go_loopg [4] 0 (fun g s wr => ∃ k v : Nat, g = 0 - k ∧ s = .int .i64 (k : Int) ∧ k ≤ 0 ∧ v = 2 ^ k ∧ TwI 8 v w wr)
  case atStart => exact ⟨0, 1, rfl, rfl, by omega, rfl, HI1.out⟩
  case round =>
    clear HI1 c00 f00
    obtain ⟨k, v, rfl, rfl, hk4, hv, I⟩ := hrel
    have hke : k = 0 := by omega
    subst hke
    have hz : zeros.set 8 v = dg (2 ^ 128) := by rw [hv]; decide +kernel
    have bz := I.bz
    rw [hz] at bz
    have BZ := Lib.hid bz
    have BR := Lib.hid I.br
    have BL := Lib.hid I.below
    have HI := Lib.hid (big_info false (dg (2 ^ 128)) (dg_len _))
    have HS := Lib.hid (big_same false false zeros (dg (2 ^ 128)) rfl (dg_len _))
    clear I bz hz hv
    go_wp2_with (first | (refine wpList_load_row rfl 27 (.tmp 3) rfl (w.heap.size + 1) rfl _ _ _ _ BZ.out Try.underlying27 rfl HI.out ?_) | (refine wpList_store_big rfl 27 (.tmp 2) (.tmp 25) rfl w.heap.size _ _ (bigC false (dg (2 ^ 128))) rfl rfl BR.out HI.out HS.out (big_one _ _) ?_))
    refine bodyPost_ret (v := .agg (bigC false (dg (2 ^ 128)))) (results_cell_row rfl _ _ w.heap.size _ _ _ _ rfl (setRow_heap _ _ _ _ _ _ BR.out) Try.underlying27 rfl HI.out) rfl ?_
    exact ⟨rfl, Below.row BL.out (Nat.le_refl _) _⟩
theorem two_63 (w : World) : Calls Try.prog 20 #[.int .i64 63] w (RetZ (2 ^ 63) w) := (two_w63 w).mono fun e w' ⟨he, hb⟩ => ⟨by rw [he]; exact congrArg (fun a => Ending.returned (Value.agg a)) (bv_eq (by decide) (by congr 1)), hb⟩
theorem two_64 (w : World) : Calls Try.prog 20 #[.int .i64 64] w (RetZ (2 ^ 64) w) := (two_w64 w).mono fun e w' ⟨he, hb⟩ => ⟨by rw [he]; exact congrArg (fun a => Ending.returned (Value.agg a)) (bv_eq (by decide) (by congr 1)), hb⟩
theorem two_127 (w : World) : Calls Try.prog 20 #[.int .i64 127] w (RetZ (2 ^ 127) w) := (two_w127 w).mono fun e w' ⟨he, hb⟩ => ⟨by rw [he]; exact congrArg (fun a => Ending.returned (Value.agg a)) (bv_eq (by decide) (by congr 1)), hb⟩
theorem two_128 (w : World) : Calls Try.prog 20 #[.int .i64 128] w (RetZ (2 ^ 128) w) := (two_w128 w).mono fun e w' ⟨he, hb⟩ => ⟨by rw [he]; exact congrArg (fun a => Ending.returned (Value.agg a)) (bv_eq (by decide) (by congr 1)), hb⟩
end Go.Proofs.Ytgkcbadfjhicnaa.Fx
