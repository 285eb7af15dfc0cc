/- The document's powers of two, walked. 
  The document's products, walked. 
  The document's comparison of two numbers, walked. 
  The number of a number of 128 bits, as the document has it, walked. 
  The number of 128 bits of a number, as the document has it, walked. 
  The document's To and Cut: their answers. 
  The document's long division: plain. -/
import Derived.Test.YtgkglkoipocgaaaProg
import Derived.Test.YtgkglkoipocgaaaBb
import Derived.Test.YtgkglkoipocgaaaLd
import Derived.Test.YtgkglkoipocgaaaW5
import Derived.Laws.ResultCell
import Derived.Test.YtgkglkoipocgaaaWe
set_option linter.unusedVariables false
set_option linter.unusedSimpArgs false
namespace Go.Proofs.Ytgkglkoipocgaaa.Fx
open Go Go.RowKit Wm
theorem big_put (neg : Bool) (d : List Nat) (q v : Nat) : (bigC neg d).setIfInBounds (1 + q) (.int .u64 (v : Int)) = bigC neg (d.set q v) := by
  unfold bigC
  rw [List.setIfInBounds_toArray, Nat.add_comm, List.set_cons_succ, List.map_set]
  rfl
structure TwI (q v : Nat) (w W : World) : Prop where
  br : W.heap[w.heap.size]? = some (.cells (bigC false zeros) 79 (0, 0))
  bz : W.heap[w.heap.size + 1]? = some (.cells (bigC false (zeros.set q v)) 79 (0, 0))
  below : Below w.heap.size w W
theorem TwI.next {q v : Nat} {w W : World} (h : TwI q v w W) (u : Nat) : TwI q u w (W.setCell ⟨w.heap.size + 1, 1 + q, none⟩ (.int .u64 (u : Int))) := by
  refine ⟨?_, ?_, h.below.setCell (p := ⟨w.heap.size + 1, 1 + q, none⟩) (by show _ ≤ w.heap.size + 1; omega) _⟩
  · rw [heap_setCell_other _ _ _ _ (by show _ ≠ w.heap.size + 1; omega)]; exact h.br
  · rw [heap_setCell_same _ _ _ _ _ _ h.bz, big_put, List.set_set]
theorem TwI.cell {q v : Nat} {w W : World} (h : TwI q v w W) (hq : q < 20) : W.cell? ⟨w.heap.size + 1, 1 + q, none⟩ = some (.int .u64 (v : Int)) ∧ W.frozen? ⟨w.heap.size + 1, 1 + q, none⟩ = false := by
  refine ⟨?_, frozen_row h.bz⟩
  rw [cell_of_row _ _ _ _ _ _ h.bz, big_at _ _ _ (by rw [List.length_set]; exact hq)]
  congr 3
  simp [List.getD_eq_getElem?_getD, hq, zeros]
theorem tw0 (q : Nat) (w : World) (hq : zeros.set q 0 = zeros) : TwI q 0 w ((w.alloc (.cells (bigC false zeros) 79)).alloc (.cells (bigC false zeros) 79)) :=
  ⟨step_row (heap_alloc_new _ _), by rw [hq]; exact heap_alloc2_new _ _ _, by go_grown⟩
set_option maxRecDepth 100000 in
set_option maxHeartbeats 4000000 in
theorem two_w63 (w : World) : Calls Try.prog 60 #[.int .i64 63] w (RetB false (dg (2 ^ 63)) w) := by
  have hI0 := tw0 3 w rfl
  have hI1 : TwI 3 1 w ((w.alloc (.cells (bigC false zeros) 79)).alloc (.cells (bigC false (zeros.set 3 1)) 79)) := ⟨step_row (heap_alloc_new _ _), heap_alloc2_new _ _ _, by go_grown⟩
  have c00 := (hI0.cell (by omega)).1
  have f00 := (hI0.cell (by omega)).2
  have hzr : bigC false zeros = #[.bool false, .int .u64 0, .int .u64 0, .int .u64 0, .int .u64 0, .int .u64 0, .int .u64 0, .int .u64 0, .int .u64 0, .int .u64 0, .int .u64 0, .int .u64 0, .int .u64 0, .int .u64 0, .int .u64 0, .int .u64 0, .int .u64 0, .int .u64 0, .int .u64 0, .int .u64 0, .int .u64 0] := rfl
  rw [hzr] at c00 f00
  have HI1 := Lib.hid hI1
  clear hI0 hI1 hzr
  go_enter Try.func60, Try.ntmps60
  go_wp2_with fail
  go_loopg [4] 15 (fun g s wr => ∃ k v : Nat, g = 15 - k ∧ s = .int .i64 (k : Int) ∧ k ≤ 15 ∧ v = 2 ^ k ∧ TwI 3 v w wr)
  case atStart => exact ⟨0, 1, rfl, rfl, by omega, rfl, HI1.out⟩
  case round =>
    clear HI1 c00 f00
    obtain ⟨k, v, rfl, rfl, hk4, hv, I⟩ := hrel
    by_cases hk : k < 15
    · have cz := (I.cell (by omega)).1
      have fz := (I.cell (by omega)).2
      have hvl : v ≤ 16384 := by
        rw [hv]
        exact Nat.pow_le_pow_right (n := 2) (by omega) (show k ≤ 14 by omega)
      have hv2 : v * 2 = 2 ^ (k + 1) := by rw [hv, Nat.pow_succ]
      have k1 : (k : Int) < 15 := by omega
      have hv3 : (v : Int) ≤ 16384 := by omega
      have I2 := I.next (v * 2)
      have HI2 := Lib.hid I2
      have HV2 := Lib.hid hv2
      clear I I2 hv hv2 hvl
      go_wp2_with fail
      go_roundg (15 - (k + 1))
      case measure => omega
      case rel =>
        refine ⟨k + 1, v * 2, rfl, by go_num, by omega, HV2.out, ?_⟩
        have := HI2.out
        simpa using this
    · have hke : k = 15 := by omega
      subst hke
      have hz : zeros.set 3 v = dg (2 ^ 63) := by rw [hv]; decide +kernel
      have bz := I.bz
      rw [hz] at bz
      have BZ := Lib.hid bz
      have BR := Lib.hid I.br
      have BL := Lib.hid I.below
      have HI := Lib.hid (big_info false (dg (2 ^ 63)) (dg_len _))
      have HS := Lib.hid (big_same false false zeros (dg (2 ^ 63)) rfl (dg_len _))
      clear I bz hz hv
      go_wp2_with (first | (refine wpList_load_row rfl 79 (.tmp 3) rfl (w.heap.size + 1) rfl _ _ _ _ BZ.out Try.underlying79 rfl HI.out ?_) | (refine wpList_store_big rfl 79 (.tmp 2) (.tmp 25) rfl w.heap.size _ _ (bigC false (dg (2 ^ 63))) rfl rfl BR.out HI.out HS.out (big_one _ _) ?_))
      refine bodyPost_ret (v := .agg (bigC false (dg (2 ^ 63)))) (results_cell_row rfl _ _ w.heap.size _ _ _ _ rfl (setRow_heap _ _ _ _ _ _ BR.out) Try.underlying79 rfl HI.out) rfl ?_
      exact ⟨rfl, Below.row BL.out (Nat.le_refl _) _⟩
set_option maxRecDepth 100000 in
set_option maxHeartbeats 4000000 in
theorem two_w64 (w : World) : Calls Try.prog 60 #[.int .i64 64] w (RetB false (dg (2 ^ 64)) w) := by
  have hI0 := tw0 4 w rfl
  have hI1 : TwI 4 1 w ((w.alloc (.cells (bigC false zeros) 79)).alloc (.cells (bigC false (zeros.set 4 1)) 79)) := ⟨step_row (heap_alloc_new _ _), heap_alloc2_new _ _ _, by go_grown⟩
  have c00 := (hI0.cell (by omega)).1
  have f00 := (hI0.cell (by omega)).2
  have hzr : bigC false zeros = #[.bool false, .int .u64 0, .int .u64 0, .int .u64 0, .int .u64 0, .int .u64 0, .int .u64 0, .int .u64 0, .int .u64 0, .int .u64 0, .int .u64 0, .int .u64 0, .int .u64 0, .int .u64 0, .int .u64 0, .int .u64 0, .int .u64 0, .int .u64 0, .int .u64 0, .int .u64 0, .int .u64 0] := rfl
  rw [hzr] at c00 f00
  have HI1 := Lib.hid hI1
  clear hI0 hI1 hzr
  go_enter Try.func60, Try.ntmps60
  go_wp2_with fail
  go_loopg [4] 0 (fun g s wr => ∃ k v : Nat, g = 0 - k ∧ s = .int .i64 (k : Int) ∧ k ≤ 0 ∧ v = 2 ^ k ∧ TwI 4 v w wr)
  case atStart => exact ⟨0, 1, rfl, rfl, by omega, rfl, HI1.out⟩
  case round =>
    clear HI1 c00 f00
    obtain ⟨k, v, rfl, rfl, hk4, hv, I⟩ := hrel
    have hke : k = 0 := by omega
    subst hke
    have hz : zeros.set 4 v = dg (2 ^ 64) := by rw [hv]; decide +kernel
    have bz := I.bz
    rw [hz] at bz
    have BZ := Lib.hid bz
    have BR := Lib.hid I.br
    have BL := Lib.hid I.below
    have HI := Lib.hid (big_info false (dg (2 ^ 64)) (dg_len _))
    have HS := Lib.hid (big_same false false zeros (dg (2 ^ 64)) rfl (dg_len _))
    clear I bz hz hv
    go_wp2_with (first | (refine wpList_load_row rfl 79 (.tmp 3) rfl (w.heap.size + 1) rfl _ _ _ _ BZ.out Try.underlying79 rfl HI.out ?_) | (refine wpList_store_big rfl 79 (.tmp 2) (.tmp 25) rfl w.heap.size _ _ (bigC false (dg (2 ^ 64))) rfl rfl BR.out HI.out HS.out (big_one _ _) ?_))
    refine bodyPost_ret (v := .agg (bigC false (dg (2 ^ 64)))) (results_cell_row rfl _ _ w.heap.size _ _ _ _ rfl (setRow_heap _ _ _ _ _ _ BR.out) Try.underlying79 rfl HI.out) rfl ?_
    exact ⟨rfl, Below.row BL.out (Nat.le_refl _) _⟩
set_option maxRecDepth 100000 in
set_option maxHeartbeats 4000000 in
theorem two_w127 (w : World) : Calls Try.prog 60 #[.int .i64 127] w (RetB false (dg (2 ^ 127)) w) := by
  have hI0 := tw0 7 w rfl
  have hI1 : TwI 7 1 w ((w.alloc (.cells (bigC false zeros) 79)).alloc (.cells (bigC false (zeros.set 7 1)) 79)) := ⟨step_row (heap_alloc_new _ _), heap_alloc2_new _ _ _, by go_grown⟩
  have c00 := (hI0.cell (by omega)).1
  have f00 := (hI0.cell (by omega)).2
  have hzr : bigC false zeros = #[.bool false, .int .u64 0, .int .u64 0, .int .u64 0, .int .u64 0, .int .u64 0, .int .u64 0, .int .u64 0, .int .u64 0, .int .u64 0, .int .u64 0, .int .u64 0, .int .u64 0, .int .u64 0, .int .u64 0, .int .u64 0, .int .u64 0, .int .u64 0, .int .u64 0, .int .u64 0, .int .u64 0] := rfl
  rw [hzr] at c00 f00
  have HI1 := Lib.hid hI1
  clear hI0 hI1 hzr
  go_enter Try.func60, Try.ntmps60
  go_wp2_with fail
  go_loopg [4] 15 (fun g s wr => ∃ k v : Nat, g = 15 - k ∧ s = .int .i64 (k : Int) ∧ k ≤ 15 ∧ v = 2 ^ k ∧ TwI 7 v w wr)
  case atStart => exact ⟨0, 1, rfl, rfl, by omega, rfl, HI1.out⟩
  case round =>
    clear HI1 c00 f00
    obtain ⟨k, v, rfl, rfl, hk4, hv, I⟩ := hrel
    by_cases hk : k < 15
    · have cz := (I.cell (by omega)).1
      have fz := (I.cell (by omega)).2
      have hvl : v ≤ 16384 := by
        rw [hv]
        exact Nat.pow_le_pow_right (n := 2) (by omega) (show k ≤ 14 by omega)
      have hv2 : v * 2 = 2 ^ (k + 1) := by rw [hv, Nat.pow_succ]
      have k1 : (k : Int) < 15 := by omega
      have hv3 : (v : Int) ≤ 16384 := by omega
      have I2 := I.next (v * 2)
      have HI2 := Lib.hid I2
      have HV2 := Lib.hid hv2
      clear I I2 hv hv2 hvl
      go_wp2_with fail
      go_roundg (15 - (k + 1))
      case measure => omega
      case rel =>
        refine ⟨k + 1, v * 2, rfl, by go_num, by omega, HV2.out, ?_⟩
        have := HI2.out
        simpa using this
    · have hke : k = 15 := by omega
      subst hke
      have hz : zeros.set 7 v = dg (2 ^ 127) := by rw [hv]; decide +kernel
      have bz := I.bz
      rw [hz] at bz
      have BZ := Lib.hid bz
      have BR := Lib.hid I.br
      have BL := Lib.hid I.below
      have HI := Lib.hid (big_info false (dg (2 ^ 127)) (dg_len _))
      have HS := Lib.hid (big_same false false zeros (dg (2 ^ 127)) rfl (dg_len _))
      clear I bz hz hv
      go_wp2_with (first | (refine wpList_load_row rfl 79 (.tmp 3) rfl (w.heap.size + 1) rfl _ _ _ _ BZ.out Try.underlying79 rfl HI.out ?_) | (refine wpList_store_big rfl 79 (.tmp 2) (.tmp 25) rfl w.heap.size _ _ (bigC false (dg (2 ^ 127))) rfl rfl BR.out HI.out HS.out (big_one _ _) ?_))
      refine bodyPost_ret (v := .agg (bigC false (dg (2 ^ 127)))) (results_cell_row rfl _ _ w.heap.size _ _ _ _ rfl (setRow_heap _ _ _ _ _ _ BR.out) Try.underlying79 rfl HI.out) rfl ?_
      exact ⟨rfl, Below.row BL.out (Nat.le_refl _) _⟩
set_option maxRecDepth 100000 in
set_option maxHeartbeats 4000000 in
theorem two_w128 (w : World) : Calls Try.prog 60 #[.int .i64 128] w (RetB false (dg (2 ^ 128)) w) := by
  have hI0 := tw0 8 w rfl
  have hI1 : TwI 8 1 w ((w.alloc (.cells (bigC false zeros) 79)).alloc (.cells (bigC false (zeros.set 8 1)) 79)) := ⟨step_row (heap_alloc_new _ _), heap_alloc2_new _ _ _, by go_grown⟩
  have c00 := (hI0.cell (by omega)).1
  have f00 := (hI0.cell (by omega)).2
  have hzr : bigC false zeros = #[.bool false, .int .u64 0, .int .u64 0, .int .u64 0, .int .u64 0, .int .u64 0, .int .u64 0, .int .u64 0, .int .u64 0, .int .u64 0, .int .u64 0, .int .u64 0, .int .u64 0, .int .u64 0, .int .u64 0, .int .u64 0, .int .u64 0, .int .u64 0, .int .u64 0, .int .u64 0, .int .u64 0] := rfl
  rw [hzr] at c00 f00
  have HI1 := Lib.hid hI1
  clear hI0 hI1 hzr
  go_enter Try.func60, Try.ntmps60
  go_wp2_with fail
  go_loopg [4] 0 (fun g s wr => ∃ k v : Nat, g = 0 - k ∧ s = .int .i64 (k : Int) ∧ k ≤ 0 ∧ v = 2 ^ k ∧ TwI 8 v w wr)
  case atStart => exact ⟨0, 1, rfl, rfl, by omega, rfl, HI1.out⟩
  case round =>
    clear HI1 c00 f00
    obtain ⟨k, v, rfl, rfl, hk4, hv, I⟩ := hrel
    have hke : k = 0 := by omega
    subst hke
    have hz : zeros.set 8 v = dg (2 ^ 128) := by rw [hv]; decide +kernel
    have bz := I.bz
    rw [hz] at bz
    have BZ := Lib.hid bz
    have BR := Lib.hid I.br
    have BL := Lib.hid I.below
    have HI := Lib.hid (big_info false (dg (2 ^ 128)) (dg_len _))
    have HS := Lib.hid (big_same false false zeros (dg (2 ^ 128)) rfl (dg_len _))
    clear I bz hz hv
    go_wp2_with (first | (refine wpList_load_row rfl 79 (.tmp 3) rfl (w.heap.size + 1) rfl _ _ _ _ BZ.out Try.underlying79 rfl HI.out ?_) | (refine wpList_store_big rfl 79 (.tmp 2) (.tmp 25) rfl w.heap.size _ _ (bigC false (dg (2 ^ 128))) rfl rfl BR.out HI.out HS.out (big_one _ _) ?_))
    refine bodyPost_ret (v := .agg (bigC false (dg (2 ^ 128)))) (results_cell_row rfl _ _ w.heap.size _ _ _ _ rfl (setRow_heap _ _ _ _ _ _ BR.out) Try.underlying79 rfl HI.out) rfl ?_
    exact ⟨rfl, Below.row BL.out (Nat.le_refl _) _⟩
theorem two_63 (w : World) : Calls Try.prog 60 #[.int .i64 63] w (RetZ (2 ^ 63) w) := (two_w63 w).mono fun e w' ⟨he, hb⟩ => ⟨by rw [he]; exact congrArg (fun a => Ending.returned (Value.agg a)) (bv_eq (by decide) (by congr 1)), hb⟩
theorem two_64 (w : World) : Calls Try.prog 60 #[.int .i64 64] w (RetZ (2 ^ 64) w) := (two_w64 w).mono fun e w' ⟨he, hb⟩ => ⟨by rw [he]; exact congrArg (fun a => Ending.returned (Value.agg a)) (bv_eq (by decide) (by congr 1)), hb⟩
theorem two_127 (w : World) : Calls Try.prog 60 #[.int .i64 127] w (RetZ (2 ^ 127) w) := (two_w127 w).mono fun e w' ⟨he, hb⟩ => ⟨by rw [he]; exact congrArg (fun a => Ending.returned (Value.agg a)) (bv_eq (by decide) (by congr 1)), hb⟩
theorem two_128 (w : World) : Calls Try.prog 60 #[.int .i64 128] w (RetZ (2 ^ 128) w) := (two_w128 w).mono fun e w' ⟨he, hb⟩ => ⟨by rw [he]; exact congrArg (fun a => Ending.returned (Value.agg a)) (bv_eq (by decide) (by congr 1)), hb⟩
end Go.Proofs.Ytgkglkoipocgaaa.Fx
set_option linter.unusedVariables false
set_option linter.unusedSimpArgs false
namespace Go.Proofs.Ytgkglkoipocgaaa.Fx
open Go Go.RowKit Wm
theorem num_set : ∀ (d : List Nat) (k v : Nat), k < d.length → num (d.set k v) + d.getD k 0 * 65536 ^ k = num d + v * 65536 ^ k
  | [], k, v, h => by simp at h
  | x :: d, 0, v, h => by
    simp only [List.set_cons_zero, num, List.getD_cons_zero, Nat.pow_zero, Nat.mul_one]
    omega
  | x :: d, k + 1, v, h => by
    have ih := num_set d k v (by simpa using h)
    simp only [List.set_cons_succ, num, List.getD_cons_succ]
    rw [Nat.pow_succ, ← Nat.mul_assoc, ← Nat.mul_assoc]
    generalize d.getD k 0 * 65536 ^ k = A at *
    generalize v * 65536 ^ k = B at *
    omega
theorem dg_set {d : List Nat} (h : Dg d) (k : Nat) {v : Nat} (hv : v < 65536) : Dg (d.set k v) := by
  refine ⟨by rw [List.length_set]; exact h.1, fun x hx => ?_⟩
  rcases List.mem_or_eq_of_mem_set hx with hx | rfl
  · exact h.2 x hx
  · exact hv
theorem dg_at_lt {d : List Nat} (h : Dg d) (k : Nat) : d.getD k 0 < 65536 := by
  rw [List.getD_eq_getElem?_getD]
  by_cases hk : k < d.length
  · rw [List.getElem?_eq_getElem hk]
    exact h.2 _ (List.getElem_mem hk)
  · rw [List.getElem?_eq_none (by omega)]
    simp
theorem getD_set_n (l : List Nat) (k p : Nat) (x : Nat) (hk : k < l.length) : (l.set k x).getD p 0 = if k = p then x else l.getD p 0 := by
  simp only [List.getD_eq_getElem?_getD, List.getElem?_set]
  split
  · subst_vars
    simp [hk]
  · rfl
/-- between two digits of a product -/
structure Pr (m n i j c : Nat) (d : List Nat) : Prop where
  hd : Dg d
  eq : num d + c * 65536 ^ (i + j) = m % 65536 ^ i * n + m / 65536 ^ i % 65536 * (n % 65536 ^ j) * 65536 ^ i
  hc : c < 65536
  up : ∀ p, i + 9 ≤ p → d.getD p 0 = 0
set_option maxRecDepth 100000 in
theorem Pr.next {m n i j c a b s : Nat} {d : List Nat} (h : Pr m n i j c d) (hij : i + j < 20) (hj : j < 9) (ha : m / 65536 ^ i % 65536 = a) (hb : n / 65536 ^ j % 65536 = b) (hs : s = d.getD (i + j) 0 + a * b + c) :
    Pr m n i (j + 1) (s / 65536) (d.set (i + j) (s % 65536)) := by
  have hz := dg_at_lt h.hd (i + j)
  have hab : a * b ≤ 65535 * 65535 := Nat.mul_le_mul (by omega) (by omega)
  have hc := h.hc
  refine ⟨dg_set h.hd _ (by omega), ?_, by omega, fun p hp => ?_⟩
  · have e1 := num_set d (i + j) (s % 65536) (by rw [h.hd.1]; exact hij)
    have e2 := h.eq
    rw [ha] at e2 ⊢
    have e3 : n % 65536 ^ (j + 1) = n % 65536 ^ j + 65536 ^ j * b := by rw [Nat.mod_pow_succ, hb]
    have e4 : a * (65536 ^ j * b) * 65536 ^ i = a * b * 65536 ^ (i + j) := by rw [Nat.pow_add]; ac_rfl
    have e5 : 65536 ^ (i + (j + 1)) = 65536 ^ (i + j) * 65536 := by rw [← Nat.pow_succ]; rfl
    rw [e3, Nat.mul_add, Nat.add_mul, e4, e5]
    have e6 : s / 65536 * (65536 ^ (i + j) * 65536) + s % 65536 * 65536 ^ (i + j) = s * 65536 ^ (i + j) := by
      rw [Nat.mul_comm (65536 ^ (i + j)) 65536, ← Nat.mul_assoc, ← Nat.add_mul, Nat.div_add_mod']
    have e7 : s * 65536 ^ (i + j) = d.getD (i + j) 0 * 65536 ^ (i + j) + a * b * 65536 ^ (i + j) + c * 65536 ^ (i + j) := by rw [hs, Nat.add_mul, Nat.add_mul]
    generalize s / 65536 * (65536 ^ (i + j) * 65536) = A1 at *
    generalize s % 65536 * 65536 ^ (i + j) = A2 at *
    generalize s * 65536 ^ (i + j) = A3 at *
    generalize d.getD (i + j) 0 * 65536 ^ (i + j) = A4 at *
    generalize a * b * 65536 ^ (i + j) = A5 at *
    generalize c * 65536 ^ (i + j) = A6 at *
    generalize a * (n % 65536 ^ j) * 65536 ^ i = A7 at *
    generalize m % 65536 ^ i * n = A8 at *
    omega
  · rw [getD_set_n _ _ _ _ (by rw [h.hd.1]; exact hij), if_neg (by omega)]
    exact h.up p hp
theorem Pr.row {m n i c : Nat} {d : List Nat} (h : Pr m n i 9 c d) (hi : i < 9) (hn : n < 65536 ^ 9) : Pr m n (i + 1) 0 0 (d.set (i + 9) c) := by
  refine ⟨dg_set h.hd _ h.hc, ?_, by omega, fun p hp => ?_⟩
  · have e1 := num_set d (i + 9) c (by rw [h.hd.1]; omega)
    have e2 := h.eq
    rw [h.up (i + 9) (by omega), Nat.zero_mul] at e1
    rw [Nat.mod_eq_of_lt hn] at e2
    rw [Nat.mod_pow_succ, Nat.zero_mul, Nat.pow_zero, Nat.mod_one, Nat.mul_zero, Nat.zero_mul, Nat.add_mul]
    have e3 : 65536 ^ i * (m / 65536 ^ i % 65536) * n = m / 65536 ^ i % 65536 * n * 65536 ^ i := by ac_rfl
    rw [e3]
    omega
  · rw [getD_set_n _ _ _ _ (by rw [h.hd.1]; omega), if_neg (by omega)]
    exact h.up p (by omega)
theorem Pr.start (m n : Nat) : Pr m n 0 0 0 zeros := by
  refine ⟨dg_dg 0, by simp [Nat.mod_one, num, zeros], by omega, fun p hp => ?_⟩
  rw [List.getD_eq_getElem?_getD, zeros, List.getElem?_replicate]
  split <;> rfl
theorem Pr.done {m n : Nat} {d : List Nat} (h : Pr m n 9 0 0 d) (hm : m < 65536 ^ 9) : d = dg (m * n) := by
  have e := h.eq
  rw [Nat.mod_eq_of_lt hm, Nat.pow_zero, Nat.mod_one, Nat.mul_zero, Nat.zero_mul, Nat.add_zero, Nat.add_zero] at e
  rw [← e]
  exact (dg_num h.hd).symm
theorem AddI.put {nx ny nz : Bool} {dx dy dz : List Nat} {w W : World} (h : AddI nx ny nz dx dy dz w W) (k v : Nat) : AddI nx ny nz dx dy (dz.set k v) w (W.setCell ⟨w.heap.size + 1 + 1 + 1, 1 + k, none⟩ (.int .u64 (v : Int))) :=
  ⟨by rw [heap_setCell_other _ _ _ _ (by show _ ≠ w.heap.size + 1 + 1 + 1; omega)]; exact h.bx, by rw [heap_setCell_other _ _ _ _ (by show _ ≠ w.heap.size + 1 + 1 + 1; omega)]; exact h.by0, by rw [heap_setCell_other _ _ _ _ (by show _ ≠ w.heap.size + 1 + 1 + 1; omega)]; exact h.br,
    by rw [heap_setCell_same _ _ _ _ _ _ h.bz, big_put], h.below.setCell (p := ⟨w.heap.size + 1 + 1 + 1, 1 + k, none⟩) (by show _ ≤ w.heap.size + 1 + 1 + 1; omega) _⟩
theorem AddI.drewN {nx ny nz : Bool} {dx dy dz : List Nat} {w W : World} (h : AddI nx ny nz dx dy dz w W) (q : Nat) : AddI nx ny nz dx dy dz w (W.drewN q) := h.up (bdrew0 _ _ q)
def MORel (nx ny : Bool) (m n : Nat) (w : World) (g : Nat) (s : Value) (W : World) : Prop := ∃ (i : Nat) (d : List Nat), g = 9 - i ∧ s = .int .i64 (i : Int) ∧ i ≤ 9 ∧ Pr m n i 0 0 d ∧ AddI nx ny false (dg m) (dg n) d w W
def MIRel (nx ny : Bool) (m n i : Nat) (w : World) (g : Nat) (s7 s8 : Value) (W : World) : Prop := ∃ (j c : Nat) (d : List Nat), g = 9 - j ∧ s7 = .int .u64 (c : Int) ∧ s8 = .int .i64 (j : Int) ∧ j ≤ 9 ∧ Pr m n i j c d ∧ AddI nx ny false (dg m) (dg n) d w W
set_option maxRecDepth 100000 in
set_option maxHeartbeats 4000000 in
theorem mul_walk (nx ny : Bool) (m n : Nat) (w : World) (hm : Hid (m < 65536 ^ 9)) (hn : Hid (n < 65536 ^ 9)) (sg : Bool) (hsg : Hid ((!(nx == ny) && !(dg (m * n) == zeros)) = sg)) :
    Calls Try.prog 41 #[.agg (bigC nx (dg m)), .agg (bigC ny (dg n))] w (RetB sg (dg (m * n)) w) := by
  have HI0 := Lib.hid (addI0 nx ny (dg m) (dg n) w)
  have HNN := hn
  go_enter Try.func41, Try.ntmps41
  go_wp2_with fail
  go_loopg [6] 9 (MORel nx ny m n w)
  case atStart => exact ⟨0, zeros, rfl, rfl, by omega, Pr.start m n, HI0.out⟩
  case round =>
    clear HI0
    obtain ⟨i, d, rfl, rfl, hi9, P, I⟩ := hrel
    by_cases hi : i < 9
    · have HP := Lib.hid P
      have HI := Lib.hid I
      have i1 : (i : Int) < 9 := by omega
      clear P I
      go_wp2_with fail
      go_loopg [7, 8] 9 (MIRel nx ny m n i w)
      case atStart => exact ⟨0, 0, d, rfl, rfl, rfl, by omega, HP.out, HI.out⟩
      case round =>
        clear HP HI
        obtain ⟨j, c, d, rfl, rfl, rfl, hj9, P, I⟩ := hrel
        by_cases hj : j < 9
        · obtain ⟨k, hk⟩ : ∃ k, i + j = k := ⟨_, rfl⟩
          obtain ⟨a, ha⟩ : ∃ a, m / 65536 ^ i % 65536 = a := ⟨_, rfl⟩
          obtain ⟨b, hb⟩ : ∃ b, n / 65536 ^ j % 65536 = b := ⟨_, rfl⟩
          obtain ⟨z, hz⟩ : ∃ z, d.getD k 0 = z := ⟨_, rfl⟩
          have al : a < 65536 := by omega
          have bl : b < 65536 := by omega
          have zl : z < 65536 := by rw [← hz]; exact dg_at_lt P.hd k
          have cl := P.hc
          have cx : wr.cell? ⟨w.heap.size, 1 + i, none⟩ = some (.int .u64 (a : Int)) := by rw [cell_of_row _ _ _ _ _ _ I.bx, big_at _ _ _ (by rw [dg_len]; omega)]; unfold dg; rw [dgF_at _ _ _ (by omega), ha]
          have cy : wr.cell? ⟨w.heap.size + 1, 1 + j, none⟩ = some (.int .u64 (b : Int)) := by rw [cell_of_row _ _ _ _ _ _ I.by0, big_at _ _ _ (by rw [dg_len]; omega)]; unfold dg; rw [dgF_at _ _ _ (by omega), hb]
          have cz : wr.cell? ⟨w.heap.size + 1 + 1 + 1, 1 + k, none⟩ = some (.int .u64 (z : Int)) := by rw [cell_of_row _ _ _ _ _ _ I.bz, big_at _ _ _ (by rw [P.hd.1]; omega), hz]
          have fz : wr.frozen? ⟨w.heap.size + 1 + 1 + 1, 1 + k, none⟩ = false := frozen_row I.bz
          have hab : a * b ≤ 65535 * 65535 := Nat.mul_le_mul (by omega) (by omega)
          obtain ⟨p, hp⟩ : ∃ p, a * b = p := ⟨_, rfl⟩
          rw [hp] at hab
          obtain ⟨q, hq⟩ : ∃ q, z + p = q := ⟨_, rfl⟩
          obtain ⟨s, hs⟩ : ∃ s, q + c = s := ⟨_, rfl⟩
          have N := P.next (a := a) (b := b) (s := s) (by omega) hj ha hb (by rw [hk, hz, hp, hq, hs])
          rw [hk] at N
          have HN := Lib.hid N
          have NI := Lib.hid (fun q => (I.drewN q).put k (s % 65536))
          have j1 : (j : Int) < 9 := by omega
          have j0 : (0 : Int) ≤ (j : Int) := by omega
          have i0 : (0 : Int) ≤ (i : Int) := by omega
          have k0 : (0 : Int) ≤ (k : Int) := by omega
          have k1 : (k : Int) < 20 := by omega
          have i2 : (i : Int) < 20 := by omega
          have j2 : (j : Int) < 20 := by omega
          have E0 : IntKind.i64.wrap ((i : Int) + (j : Int)) = (k : Int) := by rw [IntKind.wrap_i64]; omega
          have E00 : (i : Int) + (j : Int) = (k : Int) := by omega
          have pz : ((a : Int) * (b : Int)) = (p : Int) := by rw [← hp]; push_cast; rfl
          have E1 : IntKind.u64.wrap ((a : Int) * (b : Int)) = (p : Int) := by rw [pz, IntKind.wrap_u64]; omega
          have E2 : IntKind.u64.wrap ((z : Int) + (p : Int)) = (q : Int) := by rw [IntKind.wrap_u64]; omega
          have E3 : IntKind.u64.wrap ((q : Int) + (c : Int)) = (s : Int) := by rw [IntKind.wrap_u64]; omega
          have SL := Lib.hid (show s < 4300000000 by omega)
          have HK := Lib.hid hk
          clear P I ha hb hz hab hp hq hs N al bl zl cl pz hk
          go_wp2_with fail
          go_quiet (fail)
          clear E0 E1 E2 E3 cx cy
          go_wp2_with fail
          go_roundg (9 - (j + 1))
          case measure => omega
          case rel =>
            exact ⟨j + 1, s / 65536, _, rfl, by rw [show IntKind.u64.wrap ((s : Int) / 65536) = ((s / 65536 : Nat) : Int) by rw [IntKind.wrap_u64]; have := SL.out; omega], by go_num, by omega, HN.out, by have := NI.out nq; simpa using this⟩
        · obtain rfl : j = 9 := by omega
          have j1 : ¬ (((9 : Nat) : Int) < 9) := by omega
          have R := Lib.hid (P.row hi (HNN.out))
          have RI := Lib.hid (I.put (i + 9) c)
          obtain ⟨k, hk⟩ : ∃ k, i + 9 = k := ⟨_, rfl⟩
          obtain ⟨z, hz⟩ : ∃ z, d.getD k 0 = z := ⟨_, rfl⟩
          have cz : wr.cell? ⟨w.heap.size + 1 + 1 + 1, 1 + k, none⟩ = some (.int .u64 (z : Int)) := by rw [cell_of_row _ _ _ _ _ _ I.bz, big_at _ _ _ (by rw [P.hd.1]; omega), hz]
          have fz : wr.frozen? ⟨w.heap.size + 1 + 1 + 1, 1 + k, none⟩ = false := frozen_row I.bz
          rw [hk] at R RI
          have i0 : (0 : Int) ≤ (i : Int) := by omega
          have k0 : (0 : Int) ≤ (k : Int) := by omega
          have k1 : (k : Int) < 20 := by omega
          have E0 : IntKind.i64.wrap ((i : Int) + 9) = (k : Int) := by rw [IntKind.wrap_i64]; omega
          have E00 : (i : Int) + 9 = (k : Int) := by omega
          clear P I hz hk
          go_wp2_with fail
          go_roundg (9 - (i + 1))
          case measure => omega
          case rel => exact ⟨i + 1, _, rfl, by go_num, by omega, R.out, RI.out⟩
    · obtain rfl : i = 9 := by omega
      have i1 : ¬ (((9 : Nat) : Int) < 9) := by omega
      obtain rfl := P.done hm.out
      have HII := Lib.hid I
      obtain ⟨g0, g1, g2, g3⟩ := I.heads
      have BZ := Lib.hid I.bz
      have IZ := Lib.hid (big_info false (dg (m * n)) (dg_len _))
      have IS := Lib.hid (big_info sg (dg (m * n)) (dg_len _))
      have SR := Lib.hid (big_same false sg zeros (dg (m * n)) rfl (dg_len _))
      have NN := Lib.hid (fun w => none_any false (dg (m * n)) w (dg_len _))
      clear P I
      by_cases hs : nx = ny
      · obtain rfl : sg = false := by have := hsg.out; simp [hs] at this; exact this
        subst hs
        have I3 := HII.out.sign false
        have B3 := Lib.hid I3.bz
        have R3 := Lib.hid I3.br
        have L3 := Lib.hid I3.below
        clear I3
        go_wp2_with (first | (refine wpList_load_row rfl 79 (.tmp 5) rfl (w.heap.size + 1 + 1 + 1) rfl _ _ _ _ B3.out Try.underlying79 rfl IS.out ?_) | (refine wpList_store_big rfl 79 (.tmp 4) (.tmp 61) rfl (w.heap.size + 1 + 1) _ _ (bigC false (dg (m * n))) rfl rfl R3.out IS.out SR.out (big_one _ _) ?_))
        refine bodyPost_ret (v := .agg (bigC false (dg (m * n)))) (results_cell_row rfl _ _ (w.heap.size + 1 + 1) _ _ _ _ rfl (setRow_heap _ _ _ _ _ _ R3.out) Try.underlying79 rfl IS.out) rfl ?_
        exact ⟨rfl, Below.row L3.out (by omega) _⟩
      · have hs1 : (nx == ny) = false := by simpa using hs
        have hs2 : (nx != ny) = true := by simpa using hs
        have hz : (!(dg (m * n) == zeros)) = sg := by have := hsg.out; rw [hs1] at this; simpa using this
        have HZ := Lib.hid hz
        clear hz
        cases nx <;> cases ny <;> first | exact absurd rfl hs | skip
        all_goals
          go_wp2_with (refine wpList_load_big (by kernel_rfl) 79 (.tmp 5) rfl (w.heap.size + 1 + 1 + 1) rfl _ _ _ _ BZ.out Try.underlying79 rfl IZ.out ?_)
          refine (NN.out _).mono ?_
          rintro e w4 ⟨rfl, hb4⟩
          have I4 := HII.out.up hb4
          obtain ⟨n0, n1, n2, n3⟩ := I4.heads
          have I5 := I4.sign sg
          have B5 := Lib.hid I5.bz
          have R3 := Lib.hid I5.br
          have L3 := Lib.hid I5.below
          have hz := HZ.out
          clear I4 I5 hb4 g0 g1 g2 g3
          generalize (dg (m * n) == zeros) = zq at hz ⊢
          go_wp2_with (first | (refine wpList_load_row rfl 79 (.tmp 5) rfl (w.heap.size + 1 + 1 + 1) rfl _ _ _ _ B5.out Try.underlying79 rfl IS.out ?_) | (refine wpList_store_big rfl 79 (.tmp 4) (.tmp 61) rfl (w.heap.size + 1 + 1) _ _ (bigC sg (dg (m * n))) rfl rfl R3.out IS.out SR.out (big_one _ _) ?_))
          refine bodyPost_ret (v := .agg (bigC sg (dg (m * n)))) (results_cell_row rfl _ _ (w.heap.size + 1 + 1) _ _ _ _ rfl (setRow_heap _ _ _ _ _ _ R3.out) Try.underlying79 rfl IS.out) rfl ?_
          exact ⟨rfl, Below.row L3.out (by omega) _⟩
set_option maxRecDepth 100000 in
theorem mul_z (x y : Int) (w : World) (hx : x.natAbs < 65536 ^ 9) (hy : y.natAbs < 65536 ^ 9) : Calls Try.prog 41 #[.agg (bv x), .agg (bv y)] w (RetZ (x * y) w) := by
  have hlt : x.natAbs * y.natAbs < BB := by
    unfold BB
    calc x.natAbs * y.natAbs < 65536 ^ 9 * 65536 ^ 9 := Nat.mul_lt_mul'' hx hy
      _ ≤ 65536 ^ 20 := by decide
  refine (mul_walk (decide (x < 0)) (decide (y < 0)) x.natAbs y.natAbs w (Lib.hid hx) (Lib.hid hy) (decide (x * y < 0)) (Lib.hid ?_)).mono ?_
  · rw [dg_zero hlt, Bool.eq_iff_iff]
    have h0 : x.natAbs * y.natAbs = (x * y).natAbs := (Int.natAbs_mul x y).symm
    rw [h0]
    simp only [Bool.and_eq_true, Bool.not_eq_true', beq_eq_false_iff_ne, ne_eq, decide_eq_decide, decide_eq_true_eq, decide_eq_false_iff_not]
    rcases Int.lt_trichotomy x 0 with hx0 | hx0 | hx0
    · rcases Int.lt_trichotomy y 0 with hy0 | hy0 | hy0
      · have := Int.mul_pos_of_neg_of_neg hx0 hy0
        omega
      · subst hy0; simp
      · have := Int.mul_neg_of_neg_of_pos hx0 hy0
        omega
    · subst hx0; simp
    · rcases Int.lt_trichotomy y 0 with hy0 | hy0 | hy0
      · have := Int.mul_neg_of_pos_of_neg hx0 hy0
        omega
      · subst hy0; simp
      · have := Int.mul_pos hx0 hy0
        omega
  · rintro e w' ⟨rfl, hb⟩
    exact ⟨by rw [bv_eq (z := x * y) rfl (by rw [Int.natAbs_mul])], hb⟩
end Go.Proofs.Ytgkglkoipocgaaa.Fx
set_option linter.unusedVariables false
set_option linter.unusedSimpArgs false
namespace Go.Proofs.Ytgkglkoipocgaaa.Fx
open Go Go.RowKit Wm
/-- a number of the document lies at g -/
def BigAt (g : Nat) (z : Int) (W : World) : Prop := W.heap[g]? = some (.cells (bv z) 79 (0, 0))
theorem BigAt.below {W X : World} {g : Nat} {z : Int} (hb : Below W.heap.size W X) (h : BigAt g z W) : BigAt g z X := keep_row hb h
theorem bv_info (z : Int) : (Try.prog.info? 79).map (·.size) = some (bv z).size := big_info _ _ (dg_len _)
theorem bv_same (x z : Int) : (bv x).size = (bv z).size := big_same _ _ _ _ (dg_len _) (dg_len _)
theorem bv_one (z : Int) : (bv z).all (·.oneCell') = true := big_one _ _
theorem bv_zero : bv 0 = bigC false zeros := rfl
theorem BigAt.head {g : Nat} {z : Int} {W : World} (h : BigAt g z W) : W.cell? ⟨g, 0, none⟩ = some (.bool (decide (z < 0))) := by rw [cell_of_row _ _ _ _ _ _ h]; exact big_head _ _
theorem BigAt.dig {g : Nat} {z : Int} {W : World} (h : BigAt g z W) (k : Nat) (hk : k < 20) : W.cell? ⟨g, 1 + k, none⟩ = some (.int .u64 ((z.natAbs / 65536 ^ k % 65536 : Nat) : Int)) := by
  rw [cell_of_row _ _ _ _ _ _ h]
  unfold bv
  rw [big_at _ _ _ (by rw [dg_len]; exact hk)]
  unfold dg
  rw [dgF_at _ _ _ hk]
set_option maxRecDepth 100000 in
set_option maxHeartbeats 4000000 in
theorem less_walk (x y n z : Int) (b : Bool) (w : World) (cN : Hid (Ans 59 #[.agg (bv y)] (.agg (bv n)))) (cA : Hid (Ans 58 #[.agg (bv x), .agg (bv n)] (.agg (bv z)))) (hz : Hid (decide (z < 0) = b)) :
    Calls Try.prog 61 #[.agg (bv x), .agg (bv y)] w fun e w' => e = .returned (.bool b) ∧ Below w.heap.size w w' := by
  go_enter Try.func61, Try.ntmps61
  go_wp2_with fail
  have rX : BigAt w.heap.size x ((w.alloc (.cells (bv x) 79)).alloc (.cells (bv y) 79)) := step_row (heap_alloc_new _ _)
  have rY : BigAt (w.heap.size + 1) y ((w.alloc (.cells (bv x) 79)).alloc (.cells (bv y) 79)) := heap_alloc2_new _ _ _
  have hBV : Below w.heap.size w ((w.alloc (.cells (bv x) 79)).alloc (.cells (bv y) 79)) := by go_grown
  generalize ((w.alloc (.cells (bv x) 79)).alloc (.cells (bv y) 79)) = V at rX rY hBV ⊢
  have HX := Lib.hid rX
  have HY := Lib.hid rY
  have HBV := Lib.hid hBV
  clear rX rY hBV
  try rename_i KK hKK
  have HT : ∀ (Bq : Nat) (Wf : World), BigAt Bq z Wf → Below V.heap.size V Wf → KK { tmps := #[.agg (bv x), .agg (bv y), .pointer (some ⟨w.heap.size, 0, none⟩), .pointer (some ⟨w.heap.size + 1, 0, none⟩), .bool false, .pointer (some ⟨Bq, 0, none⟩), .agg (bv x), .agg (bv y), .agg (bv n), .agg (bv z), undef, undef], defers := [] } Wf := by
    intro Bq Wf hq hb
    refine hKK _ _ ?_
    have HB2 := Lib.hid (bnext HBV.out hb)
    have hc := hq.head
    rw [hz.out] at hc
    clear hKK hq hb HX HY HBV
    go_wp2_with fail
    go_ret
    exact ⟨rfl, HB2.out⟩
  refine (wpIn_wide (n := 5)).1 (held_region (F := Fence.wide) (S := fun X => Below V.heap.size V X) (by kernel_rfl) (bdrew0 _ _ 1) (fun hHeld => ?_))
  refine held_take (fun _ => trivial) (by kernel_rfl) (i := 0) (oi := _) (v := .agg (bv x)) rfl (by kernel_rfl) (by kernel_rfl) (by kernel_rfl) (fun _ _ _ h => h) (by assumption) (Or.inl ⟨by kernel_rfl, ?_⟩) ?_
  · intro wz hSw; exact exec_load_row 79 (.tmp 2) (by kernel_rfl) (w.heap.size) (by kernel_rfl) _ _ _ _ (BigAt.below hSw HX.out) Try.underlying79 (by kernel_rfl) (bv_info _)
  (try simp only [Act.put, List.getElem_toArray, List.getElem_cons_zero, List.getElem_cons_succ, List.setIfInBounds_toArray, List.set_cons_zero, List.set_cons_succ])
  refine held_take (fun _ => trivial) (by kernel_rfl) (i := 1) (oi := _) (v := .agg (bv y)) rfl (by kernel_rfl) (by kernel_rfl) (by kernel_rfl) (fun _ _ _ h => h) (by assumption) (Or.inl ⟨by kernel_rfl, ?_⟩) ?_
  · intro wz hSw; exact exec_load_row 79 (.tmp 3) (by kernel_rfl) (w.heap.size + 1) (by kernel_rfl) _ _ _ _ (BigAt.below hSw HY.out) Try.underlying79 (by kernel_rfl) (bv_info _)
  (try simp only [Act.put, List.getElem_toArray, List.getElem_cons_zero, List.getElem_cons_succ, List.setIfInBounds_toArray, List.set_cons_zero, List.set_cons_succ])
  refine held_step2 (fun _ => trivial) (i := 2) (j := 4) (o := _) (o2 := _) (by kernel_rfl) rfl rfl (fun K hK => ?_) (fun K hK => ?_)
  · go_simp
    refine ⟨trivial, callsIn_wide.2 ((cN.out _).mono ?_)⟩
    rintro e x1 ⟨rfl, hb1⟩
    dsimp only
    refine hK.out _ _ (bnext hHeld hb1) (fun hHeld => ?_)
    clear hK K
    (try simp only [Act.put, List.getElem_toArray, List.getElem_cons_zero, List.getElem_cons_succ, List.setIfInBounds_toArray, List.set_cons_zero, List.set_cons_succ])
    refine held_step2 (fun _ => trivial) (i := 3) (j := 4) (o := _) (o2 := _) (by kernel_rfl) rfl rfl (fun K hK => ?_) (fun K hK => ?_)
    · go_simp
      refine ⟨trivial, callsIn_wide.2 ((cA.out _).mono ?_)⟩
      rintro e x2 ⟨rfl, hb2⟩
      dsimp only
      refine hK.out _ _ (bnext hHeld hb2) (fun hHeld => ?_)
      clear hK K
      (try simp only [Act.put, List.getElem_toArray, List.getElem_cons_zero, List.getElem_cons_succ, List.setIfInBounds_toArray, List.set_cons_zero, List.set_cons_succ])
      refine held_step (fun _ => trivial) (i := 4) (o := _) (by kernel_rfl) rfl (fun K hK => ?_)
      have hBq : V.heap.size ≤ x2.heap.size := hHeld.size
      go_simp
      have hrow := heap_alloc_new (x2) ((.cells #[.bool false, .int .u64 0, .int .u64 0, .int .u64 0, .int .u64 0, .int .u64 0, .int .u64 0, .int .u64 0, .int .u64 0, .int .u64 0, .int .u64 0, .int .u64 0, .int .u64 0, .int .u64 0, .int .u64 0, .int .u64 0, .int .u64 0, .int .u64 0, .int .u64 0, .int .u64 0, .int .u64 0] 79))
      refine hK.out _ _ (hHeld.alloc hHeld.size _) (fun hHeld => ?_)
      clear hK K
      (try simp only [Act.put, List.getElem_toArray, List.getElem_cons_zero, List.getElem_cons_succ, List.setIfInBounds_toArray, List.set_cons_zero, List.set_cons_succ])
      refine held_step (fun _ => trivial) (i := 5) (o := _) (by kernel_rfl) rfl (fun K hK => ?_)
      rw [if_pos (by kernel_rfl)]
      refine wpIn_store_row (fun _ => trivial) 79 (.tmp 5) (.tmp 9) (by kernel_rfl) (x2.heap.size) _ _ (bv z) (by kernel_rfl) (by kernel_rfl) hrow (bv_info _) (bv_same 0 _) (bv_one _) ?_
      refine hK.out _ _ (Below.row hHeld hBq _) (fun hHeld => ?_)
      clear hK K
      (try simp only [Act.put, List.getElem_toArray, List.getElem_cons_zero, List.getElem_cons_succ, List.setIfInBounds_toArray, List.set_cons_zero, List.set_cons_succ])
      refine held_done (by kernel_rfl) ?_ _
      exact HT (x2.heap.size) _ (setRow_heap _ _ _ _ _ _ hrow) hHeld
    · have hBq : V.heap.size ≤ x1.heap.size := hHeld.size
      go_simp
      have hrow := heap_alloc_new (x1) ((.cells #[.bool false, .int .u64 0, .int .u64 0, .int .u64 0, .int .u64 0, .int .u64 0, .int .u64 0, .int .u64 0, .int .u64 0, .int .u64 0, .int .u64 0, .int .u64 0, .int .u64 0, .int .u64 0, .int .u64 0, .int .u64 0, .int .u64 0, .int .u64 0, .int .u64 0, .int .u64 0, .int .u64 0] 79))
      refine hK.out _ _ (hHeld.alloc hHeld.size _) (fun hHeld => ?_)
      clear hK K
      (try simp only [Act.put, List.getElem_toArray, List.getElem_cons_zero, List.getElem_cons_succ, List.setIfInBounds_toArray, List.set_cons_zero, List.set_cons_succ])
      refine held_step (fun _ => trivial) (i := 3) (o := _) (by kernel_rfl) rfl (fun K hK => ?_)
      go_simp
      refine ⟨trivial, callsIn_wide.2 ((cA.out _).mono ?_)⟩
      rintro e x2 ⟨rfl, hb2⟩
      dsimp only
      replace hrow := keep_row hb2 hrow
      refine hK.out _ _ (bnext hHeld hb2) (fun hHeld => ?_)
      clear hK K
      (try simp only [Act.put, List.getElem_toArray, List.getElem_cons_zero, List.getElem_cons_succ, List.setIfInBounds_toArray, List.set_cons_zero, List.set_cons_succ])
      refine held_step (fun _ => trivial) (i := 5) (o := _) (by kernel_rfl) rfl (fun K hK => ?_)
      rw [if_pos (by kernel_rfl)]
      refine wpIn_store_row (fun _ => trivial) 79 (.tmp 5) (.tmp 9) (by kernel_rfl) (x1.heap.size) _ _ (bv z) (by kernel_rfl) (by kernel_rfl) hrow (bv_info _) (bv_same 0 _) (bv_one _) ?_
      refine hK.out _ _ (Below.row hHeld hBq _) (fun hHeld => ?_)
      clear hK K
      (try simp only [Act.put, List.getElem_toArray, List.getElem_cons_zero, List.getElem_cons_succ, List.setIfInBounds_toArray, List.set_cons_zero, List.set_cons_succ])
      refine held_done (by kernel_rfl) ?_ _
      exact HT (x1.heap.size) _ (setRow_heap _ _ _ _ _ _ hrow) hHeld
  · have hBq : V.heap.size ≤ V.heap.size := hHeld.size
    go_simp
    have hrow := heap_alloc_new (V.drew) ((.cells #[.bool false, .int .u64 0, .int .u64 0, .int .u64 0, .int .u64 0, .int .u64 0, .int .u64 0, .int .u64 0, .int .u64 0, .int .u64 0, .int .u64 0, .int .u64 0, .int .u64 0, .int .u64 0, .int .u64 0, .int .u64 0, .int .u64 0, .int .u64 0, .int .u64 0, .int .u64 0, .int .u64 0] 79))
    refine hK.out _ _ (hHeld.alloc hHeld.size _) (fun hHeld => ?_)
    clear hK K
    (try simp only [Act.put, List.getElem_toArray, List.getElem_cons_zero, List.getElem_cons_succ, List.setIfInBounds_toArray, List.set_cons_zero, List.set_cons_succ])
    refine held_step (fun _ => trivial) (i := 2) (o := _) (by kernel_rfl) rfl (fun K hK => ?_)
    go_simp
    refine ⟨trivial, callsIn_wide.2 ((cN.out _).mono ?_)⟩
    rintro e x1 ⟨rfl, hb1⟩
    dsimp only
    replace hrow := keep_row hb1 hrow
    refine hK.out _ _ (bnext hHeld hb1) (fun hHeld => ?_)
    clear hK K
    (try simp only [Act.put, List.getElem_toArray, List.getElem_cons_zero, List.getElem_cons_succ, List.setIfInBounds_toArray, List.set_cons_zero, List.set_cons_succ])
    refine held_step (fun _ => trivial) (i := 3) (o := _) (by kernel_rfl) rfl (fun K hK => ?_)
    go_simp
    refine ⟨trivial, callsIn_wide.2 ((cA.out _).mono ?_)⟩
    rintro e x2 ⟨rfl, hb2⟩
    dsimp only
    replace hrow := keep_row hb2 hrow
    refine hK.out _ _ (bnext hHeld hb2) (fun hHeld => ?_)
    clear hK K
    (try simp only [Act.put, List.getElem_toArray, List.getElem_cons_zero, List.getElem_cons_succ, List.setIfInBounds_toArray, List.set_cons_zero, List.set_cons_succ])
    refine held_step (fun _ => trivial) (i := 5) (o := _) (by kernel_rfl) rfl (fun K hK => ?_)
    rw [if_pos (by kernel_rfl)]
    refine wpIn_store_row (fun _ => trivial) 79 (.tmp 5) (.tmp 9) (by kernel_rfl) (V.heap.size) _ _ (bv z) (by kernel_rfl) (by kernel_rfl) hrow (bv_info _) (bv_same 0 _) (bv_one _) ?_
    refine hK.out _ _ (Below.row hHeld hBq _) (fun hHeld => ?_)
    clear hK K
    (try simp only [Act.put, List.getElem_toArray, List.getElem_cons_zero, List.getElem_cons_succ, List.setIfInBounds_toArray, List.set_cons_zero, List.set_cons_succ])
    refine held_done (by kernel_rfl) ?_ _
    exact HT (V.heap.size) _ (setRow_heap _ _ _ _ _ _ hrow) hHeld
theorem less_z (x y : Int) (w : World) (h : x.natAbs + y.natAbs < BB) : Calls Try.prog 61 #[.agg (bv x), .agg (bv y)] w fun e w' => e = .returned (.bool (decide (x < y))) ∧ Below w.heap.size w w' :=
  less_walk x y (-y) (x + -y) _ w (Lib.hid fun w => neg_z y w (by omega)) (Lib.hid fun w => add_z x (-y) w (by omega)) (Lib.hid (by rw [decide_eq_decide]; omega))
end Go.Proofs.Ytgkglkoipocgaaa.Fx
set_option linter.unusedVariables false
set_option linter.unusedSimpArgs false
namespace Go.Proofs.Ytgkglkoipocgaaa.Fx
open Go Go.RowKit Wm
structure FrI (h : Int) (l : Nat) (p : List Nat) (w W : World) : Prop where
  bw : W.heap[w.heap.size]? = some (.cells #[.int .i64 h, .int .u64 l] 85 (0, 0))
  br : W.heap[w.heap.size + 1]? = some (.cells (bigC false zeros) 79 (0, 0))
  bl : W.heap[w.heap.size + 1 + 1]? = some (.cells (bigC false (pad p)) 79 (0, 0))
  below : Below w.heap.size w W
theorem FrI.next {h : Int} {l : Nat} {p : List Nat} {w W : World} (i : FrI h l p w W) (v : Nat) (hp : p.length < 20) : FrI h l (p ++ [v]) w (W.setCell ⟨w.heap.size + 1 + 1, 1 + p.length, none⟩ (.int .u64 (v : Int))) := by
  refine ⟨?_, ?_, ?_, i.below.setCell (p := ⟨w.heap.size + 1 + 1, 1 + p.length, none⟩) (by show _ ≤ w.heap.size + 1 + 1; omega) _⟩
  · rw [heap_setCell_other _ _ _ _ (by show _ ≠ w.heap.size + 1 + 1; omega)]; exact i.bw
  · rw [heap_setCell_other _ _ _ _ (by show _ ≠ w.heap.size + 1 + 1; omega)]; exact i.br
  · rw [heap_setCell_same _ _ _ _ _ _ i.bl, pad_put p v false hp]
def FrRel (h : Int) (l : Nat) (w : World) (g : Nat) (s4 s5 : Value) (W : World) : Prop :=
  ∃ k : Nat, g = 4 - k ∧ s4 = .int .u64 ((l / 65536 ^ k : Nat) : Int) ∧ s5 = .int .i64 (k : Int) ∧ k ≤ 4 ∧ FrI h l (dgF k l) w W
structure FrS (h : Int) (l : Nat) (w W : World) : Prop where
  bw : W.heap[w.heap.size]? = some (.cells #[.int .i64 h, .int .u64 l] 85 (0, 0))
  bl : BigAt (w.heap.size + 1 + 1) (l : Int) W
  below : Below w.heap.size w W
theorem FrS.up {h : Int} {l : Nat} {w W X : World} (i : FrS h l w W) (hb : Below W.heap.size W X) : FrS h l w X := ⟨keep_row hb i.bw, BigAt.below hb i.bl, bnext i.below hb⟩
theorem FrS.c0 {h : Int} {l : Nat} {w W : World} (i : FrS h l w W) : W.cell? ⟨w.heap.size, 0, none⟩ = some (.int .i64 h) := by rw [cell_of_row _ _ _ _ _ _ i.bw]; rfl
theorem FrS.put {h : Int} {l : Nat} {w W : World} (i : FrS h l w W) (c : Array Value) : FrS h l w (W.setRow (w.heap.size + 1) c) :=
  ⟨by rw [setRow_other _ _ _ _ (by omega)]; exact i.bw, by unfold BigAt; rw [setRow_other _ _ _ _ (by omega)]; exact i.bl, Below.row i.below (by omega) _⟩
end Go.Proofs.Ytgkglkoipocgaaa.Fx
set_option linter.unusedVariables false
set_option linter.unusedSimpArgs false
namespace Go.Proofs.Ytgkglkoipocgaaa.Fx
open Go Go.RowKit Wm
theorem results_row_tmp {P : Program} {fn : Func} {p u : Tmp} {ty : TypeId} (h : fn.results = #[.cell p ty, .tmp u]) (tmps : Array Value) (w : World) (g : Nat) (t : TypeId) (cs : Array Value) (fr : Nat × Nat) (d : TypeDesc) (v : Value)
    (hp : tmps.getD p undef = .pointer (some ⟨g, 0, none⟩)) (hg : w.heap[g]? = some (.cells cs t fr))
    (hu : P.underlying ty = some d) (hd : (match d with | .struct _ | .array _ _ => true | _ => false) = true) (hi : (P.info? ty).map (·.size) = some cs.size) (hv : tmps.getD u undef = v) :
    (results fn tmps).run P w = .ok (.tuple #[.agg cs, v]) w := by
  rw [results_cell_tmp h, hp, hv]
  simp [asAddr, Result.andThen, run_loadVar_row w g t ty cs fr d hg hu hd hi]
def WideAt (g : Nat) (h : Int) (l : Nat) (W : World) : Prop := W.heap[g]? = some (.cells #[.int .i64 h, .int .u64 l] 85 (0, 0))
theorem WideAt.below {W X : World} {g l : Nat} {h : Int} (hb : Below W.heap.size W X) (i : WideAt g h l W) : WideAt g h l X := keep_row hb i
theorem WideAt.c0 {W : World} {g l : Nat} {h : Int} (i : WideAt g h l W) : W.cell? ⟨g, 0, none⟩ = some (.int .i64 h) := by rw [cell_of_row _ _ _ _ _ _ i]; rfl
theorem WideAt.c1 {W : World} {g l : Nat} {h : Int} (i : WideAt g h l W) : W.cell? ⟨g, 1, none⟩ = some (.int .u64 (l : Int)) := by rw [cell_of_row _ _ _ _ _ _ i]; rfl
theorem WideAt.fr {W : World} {g l : Nat} {h : Int} (i : WideAt g h l W) (j : Nat) : W.frozen? ⟨g, j, none⟩ = false := frozen_row i
theorem WideAt.put2 {W : World} {g b l : Nat} {a h : Int} (i : WideAt g a b W) : WideAt g h l ((W.setCell ⟨g, 0, none⟩ (.int .i64 h)).setCell ⟨g, 1, none⟩ (.int .u64 (l : Int))) := by
  unfold WideAt
  rw [heap_setCell_same _ _ _ _ _ _ (heap_setCell_same _ _ _ _ _ _ i)]
  rfl
theorem Below.put2 {B : Nat} {v W : World} {g : Nat} (hb : Below B v W) (hg : B ≤ g) (x y : Value) : Below B v ((W.setCell ⟨g, 0, none⟩ x).setCell ⟨g, 1, none⟩ y) :=
  (hb.setCell (p := ⟨g, 0, none⟩) hg _).setCell (p := ⟨g, 1, none⟩) hg _
theorem wpIn_load_row {F : Fence} {n : Nat} {P : Program} {o : Oper} {a : Act} {w : World} {K : Act → World → Prop} {Q : Exit → Act → World → Prop} (hF : ∀ f, F.fn f) (ty : TypeId) (x : Operand) (ho : o.op = .load ty x)
    (g : Nat) (hx : a.eval x = .pointer (some ⟨g, 0, none⟩)) (t : TypeId) (cs : Array Value) (fr : Nat × Nat) (d : TypeDesc) (hg : w.heap[g]? = some (.cells cs t fr))
    (hu : P.underlying ty = some d) (hd : (match d with | .struct _ | .array _ _ => true | _ => false) = true) (hi : (P.info? ty).map (·.size) = some cs.size) (h : K (a.put o.dst (.agg cs)) w) : Oper.wpIn F n P o a w K Q := by
  unfold Oper.wpIn
  rw [Oper.semAt_plain F _ _ (by intro c e; rw [ho] at e; cases e)]
  rw [exec_load_row ty x ho g hx t cs fr d hg hu hd hi]
  exact ⟨fun f _ => hF f, h⟩
structure ToI (y : Nat) (w W : World) : Prop where
  bx : BigAt w.heap.size (y : Int) W
  br : WideAt (w.heap.size + 1) 0 0 W
  below : Below w.heap.size w W
structure ToS (x : Int) (w W : World) : Prop where
  bx : BigAt w.heap.size x W
  br : WideAt (w.heap.size + 1) 0 0 W
  below : Below w.heap.size w W
theorem ToS.up {x : Int} {w W X : World} (i : ToS x w W) (hb : Below W.heap.size W X) : ToS x w X := ⟨BigAt.below hb i.bx, WideAt.below hb i.br, bnext i.below hb⟩
theorem ToS.put {x : Int} {w W : World} (y : Nat) (i : ToS x w W) : ToI y w (W.setRow w.heap.size (bv (y : Int))) :=
  ⟨setRow_heap _ _ _ _ _ _ i.bx, by unfold WideAt; rw [setRow_other _ _ _ _ (by omega)]; exact i.br, Below.row i.below (Nat.le_refl _) _⟩
def ToRel (y : Nat) (w : World) (g : Nat) (s5 s6 s7 : Value) (W : World) : Prop :=
  ∃ k : Nat, g = k ∧ s5 = .int .u64 ((y / 65536 ^ k % 65536 ^ (4 - k) : Nat) : Int) ∧ s6 = .int .u64 ((y / 65536 ^ (k + 4) % 65536 ^ (4 - k) : Nat) : Int) ∧ s7 = .int .i64 ((k : Int) - 1) ∧ k ≤ 4 ∧ ToI y w W
theorem to_step (y k : Nat) (hk : k < 4) : y / 65536 ^ k % 65536 ^ (4 - k) = y / 65536 ^ (k + 1) % 65536 ^ (4 - (k + 1)) * 65536 + y / 65536 ^ k % 65536 := by
  have h1 : y / 65536 ^ (k + 1) = y / 65536 ^ k / 65536 := by rw [Nat.pow_succ, Nat.div_div_eq_div_mul]
  obtain ⟨m, hm⟩ : ∃ m, 4 - (k + 1) = m := ⟨_, rfl⟩
  rw [h1, hm, show 4 - k = m + 1 by omega]
  generalize y / 65536 ^ k = q
  rw [Nat.pow_succ, Nat.mul_comm (65536 ^ m) 65536, Nat.mod_mul]
  omega
theorem to_lt (y k : Nat) (hk : 1 ≤ k) : y % 65536 ^ (4 - k) < 281474976710656 := by
  have h1 : y % 65536 ^ (4 - k) < 65536 ^ (4 - k) := Nat.mod_lt _ (Nat.pow_pos (by omega))
  have h2 : 65536 ^ (4 - k) ≤ 65536 ^ 3 := Nat.pow_le_pow_right (by omega) (by omega)
  have h3 : (65536 : Nat) ^ 3 = 281474976710656 := by decide
  omega
set_option maxRecDepth 100000 in
set_option maxHeartbeats 4000000 in
theorem to_pos (x t n : Int) (y lo hi : Nat) (h : Int) (w : World) (cT : Hid (Ans 60 #[.int .i64 127] (.agg (bv t)))) (cL : Hid (Ans 61 #[.agg (bv x), .agg (bv t)] (.bool true))) (cN : Hid (Ans 59 #[.agg (bv t)] (.agg (bv n)))) (cL2 : Hid (Ans 61 #[.agg (bv x), .agg (bv n)] (.bool false))) (hlo : Hid (y % 65536 ^ 4 = lo)) (hhi : Hid (y / 65536 ^ 4 % 65536 ^ 4 = hi)) (hh : IntKind.i64.wrap (hi : Int) = h) (hxy : Hid (x = (y : Int)))
    : Calls Try.prog 44 #[.agg (bv x)] w (fun e w' => e = .returned (.tuple #[.agg #[.int .i64 h, .int .u64 lo], .bool true]) ∧ Below w.heap.size w w') := by
  go_enter Try.func44, Try.ntmps44
  go_wp2_with fail
  refine (cT.out _).mono ?_
  rintro e w1 ⟨rfl, hb1⟩
  have rX : BigAt w.heap.size x (w1.alloc (.cells (bv t) 79)) := step_row (BigAt.below hb1 (step_row (heap_alloc_new _ _)))
  have rR : WideAt (w.heap.size + 1) 0 0 (w1.alloc (.cells (bv t) 79)) := step_row (WideAt.below hb1 (heap_alloc2_new _ _ _))
  have rT : BigAt w1.heap.size t (w1.alloc (.cells (bv t) 79)) := heap_alloc_new _ _
  have htrue : Below w.heap.size w w1 := (by go_grown : Below w.heap.size w ((w.alloc (.cells (bv x) 79)).alloc (.cells #[.int .i64 0, .int .u64 0] 85))).trans (hb1.mono (by simp; omega))
  have hBV : Below w.heap.size w (w1.alloc (.cells (bv t) 79)) := htrue.alloc htrue.size _
  have hsz : w.heap.size + 1 < w1.heap.size := by have := hb1.size; simp at this; omega
  clear hb1 htrue
  go_wp2_with (refine wpList_store_new rfl 79 (.tmp 4) (.tmp 8) rfl w1.heap.size _ _ (bv t) rfl rfl rfl (bv_info _) (bv_same 0 _) (bv_one _) ?_)
  generalize (w1.alloc (.cells (bv t) 79)) = V at rX rR rT hBV ⊢
  generalize w1.heap.size = B at rT hsz ⊢
  have HX := Lib.hid rX
  have HR := Lib.hid rR
  have HT := Lib.hid rT
  have HBV := Lib.hid hBV
  clear rX rR rT hBV
  try rename_i KK hKK
  refine (wpIn_wide (n := 5)).1 (held_region (F := Fence.wide) (S := fun X => Below V.heap.size V X) (by kernel_rfl) (bdrew0 _ _ 1) (fun hHeld => ?_))
  refine held_take (fun _ => trivial) (by kernel_rfl) (i := 0) (oi := _) (v := .agg (bv x)) rfl (by kernel_rfl) (by kernel_rfl) (by kernel_rfl) (fun _ _ _ h => h) (by assumption) (Or.inl ⟨by kernel_rfl, ?_⟩) ?_
  · intro wz hSw; exact exec_load_row 79 (.tmp 1) (by kernel_rfl) (w.heap.size) (by kernel_rfl) _ _ _ _ (BigAt.below hSw HX.out) Try.underlying79 (by kernel_rfl) (bv_info _)
  (try simp only [Act.put, List.getElem_toArray, List.getElem_cons_zero, List.getElem_cons_succ, List.setIfInBounds_toArray, List.set_cons_zero, List.set_cons_succ])
  refine held_take (fun _ => trivial) (by kernel_rfl) (i := 1) (oi := _) (v := .agg (bv t)) rfl (by kernel_rfl) (by kernel_rfl) (by kernel_rfl) (fun _ _ _ h => h) (by assumption) (Or.inl ⟨by kernel_rfl, ?_⟩) ?_
  · intro wz hSw; exact exec_load_row 79 (.tmp 4) (by kernel_rfl) (B) (by kernel_rfl) _ _ _ _ (BigAt.below hSw HT.out) Try.underlying79 (by kernel_rfl) (bv_info _)
  (try simp only [Act.put, List.getElem_toArray, List.getElem_cons_zero, List.getElem_cons_succ, List.setIfInBounds_toArray, List.set_cons_zero, List.set_cons_succ])
  refine held_step (fun _ => trivial) (i := 2) (o := _) (by kernel_rfl) rfl (fun K hK => ?_)
  go_simp
  refine ⟨trivial, callsIn_wide.2 ((cL.out _).mono ?_)⟩
  rintro e x1 ⟨rfl, hb1⟩
  dsimp only
  refine hK.out _ _ (bnext hHeld hb1) (fun hHeld => ?_)
  clear hK K
  (try simp only [Act.put, List.getElem_toArray, List.getElem_cons_zero, List.getElem_cons_succ, List.setIfInBounds_toArray, List.set_cons_zero, List.set_cons_succ])
  refine held_take (fun _ => trivial) (by kernel_rfl) (i := 3) (oi := _) (v := ?_) rfl (by kernel_rfl) (by kernel_rfl) (by kernel_rfl) (fun _ _ _ h => h) (by assumption) (Or.inl ⟨by kernel_rfl, ?_⟩) ?_
  rotate_left
  · intro wz hSw; (first | (go_simp; done) | (go_simp; with_reducible rfl))
  (try simp only [Act.put, List.getElem_toArray, List.getElem_cons_zero, List.getElem_cons_succ, List.setIfInBounds_toArray, List.set_cons_zero, List.set_cons_succ])
  refine held_take (fun _ => trivial) (by kernel_rfl) (i := 4) (oi := _) (v := ?_) rfl (by kernel_rfl) (by kernel_rfl) (by kernel_rfl) (fun _ _ _ h => h) (by assumption) (Or.inl ⟨by kernel_rfl, ?_⟩) ?_
  rotate_left
  · intro wz hSw; (first | (go_simp; done) | (go_simp; with_reducible rfl))
  (try simp only [Act.put, List.getElem_toArray, List.getElem_cons_zero, List.getElem_cons_succ, List.setIfInBounds_toArray, List.set_cons_zero, List.set_cons_succ])
  refine held_take (fun _ => trivial) (by kernel_rfl) (i := 5) (oi := _) (v := .agg (bv x)) rfl (by kernel_rfl) (by kernel_rfl) (by kernel_rfl) (fun _ _ _ h => h) (by assumption) (Or.inl ⟨by kernel_rfl, ?_⟩) ?_
  · intro wz hSw; exact exec_load_row 79 (.tmp 1) (by kernel_rfl) (w.heap.size) (by kernel_rfl) _ _ _ _ (BigAt.below hSw HX.out) Try.underlying79 (by kernel_rfl) (bv_info _)
  (try simp only [Act.put, List.getElem_toArray, List.getElem_cons_zero, List.getElem_cons_succ, List.setIfInBounds_toArray, List.set_cons_zero, List.set_cons_succ])
  refine held_take (fun _ => trivial) (by kernel_rfl) (i := 6) (oi := _) (v := .agg (bv t)) rfl (by kernel_rfl) (by kernel_rfl) (by kernel_rfl) (fun _ _ _ h => h) (by assumption) (Or.inl ⟨by kernel_rfl, ?_⟩) ?_
  · intro wz hSw; exact exec_load_row 79 (.tmp 4) (by kernel_rfl) (B) (by kernel_rfl) _ _ _ _ (BigAt.below hSw HT.out) Try.underlying79 (by kernel_rfl) (bv_info _)
  (try simp only [Act.put, List.getElem_toArray, List.getElem_cons_zero, List.getElem_cons_succ, List.setIfInBounds_toArray, List.set_cons_zero, List.set_cons_succ])
  refine held_step (fun _ => trivial) (i := 7) (o := _) (by kernel_rfl) rfl (fun K hK => ?_)
  go_simp
  refine ⟨trivial, callsIn_wide.2 ((cN.out _).mono ?_)⟩
  rintro e x2 ⟨rfl, hb2⟩
  dsimp only
  refine hK.out _ _ (bnext hHeld hb2) (fun hHeld => ?_)
  clear hK K
  (try simp only [Act.put, List.getElem_toArray, List.getElem_cons_zero, List.getElem_cons_succ, List.setIfInBounds_toArray, List.set_cons_zero, List.set_cons_succ])
  refine held_step (fun _ => trivial) (i := 8) (o := _) (by kernel_rfl) rfl (fun K hK => ?_)
  go_simp
  refine ⟨trivial, callsIn_wide.2 ((cL2.out _).mono ?_)⟩
  rintro e x3 ⟨rfl, hb3⟩
  dsimp only
  refine hK.out _ _ (bnext hHeld hb3) (fun hHeld => ?_)
  clear hK K
  (try simp only [Act.put, List.getElem_toArray, List.getElem_cons_zero, List.getElem_cons_succ, List.setIfInBounds_toArray, List.set_cons_zero, List.set_cons_succ])
  refine held_take (fun _ => trivial) (by kernel_rfl) (i := 9) (oi := _) (v := ?_) rfl (by kernel_rfl) (by kernel_rfl) (by kernel_rfl) (fun _ _ _ h => h) (by assumption) (Or.inl ⟨by kernel_rfl, ?_⟩) ?_
  rotate_left
  · intro wz hSw; (first | (go_simp; done) | (go_simp; with_reducible rfl))
  (try simp only [Act.put, List.getElem_toArray, List.getElem_cons_zero, List.getElem_cons_succ, List.setIfInBounds_toArray, List.set_cons_zero, List.set_cons_succ])
  refine held_done (by kernel_rfl) ?_ _
  first | (refine hKK _ _ ?_) | skip
  have rX2 := BigAt.below hHeld HX.out
  have rR2 := WideAt.below hHeld HR.out
  have HB := bnext HBV.out hHeld
  rw [hxy.out] at rX2
  have hd := rX2.head
  rw [decide_eq_false (by omega)] at hd
  have HI0 : Hid (ToI y w x3) := Lib.hid ⟨rX2, rR2, HB⟩
  clear hHeld HX HT HR HBV rX2 rR2 HB hsz
  go_wp2_with fail
  go_loopg [5, 6, 7] 4 (ToRel y w)
  case atStart => exact ⟨4, rfl, by simp [Nat.mod_one], by simp [Nat.mod_one], rfl, by omega, HI0.out⟩
  case round =>
    clear HI0
    obtain ⟨k, rfl, rfl, rfl, rfl, hk4, I⟩ := hrel
    cases gk with
    | succ k =>
      obtain ⟨a, ha⟩ : ∃ a, y / 65536 ^ (k + 1) % 65536 ^ (4 - (k + 1)) = a := ⟨_, rfl⟩
      obtain ⟨b, hb⟩ : ∃ b, y / 65536 ^ (k + 1 + 4) % 65536 ^ (4 - (k + 1)) = b := ⟨_, rfl⟩
      obtain ⟨d, hd⟩ : ∃ d, y / 65536 ^ k % 65536 = d := ⟨_, rfl⟩
      obtain ⟨f, hf⟩ : ∃ f, y / 65536 ^ (k + 4) % 65536 = f := ⟨_, rfl⟩
      obtain ⟨k4, hk5⟩ : ∃ k4, k + 4 = k4 := ⟨_, rfl⟩
      have al : a < 281474976710656 := by rw [← ha]; exact to_lt _ _ (by omega)
      have bl : b < 281474976710656 := by rw [← hb]; exact to_lt _ _ (by omega)
      have dl : d < 65536 := by omega
      have fl : f < 65536 := by omega
      have N1 : Hid (y / 65536 ^ k % 65536 ^ (4 - k) = a * 65536 + d) := Lib.hid (by rw [to_step y k (by omega), ha, hd])
      have N2 : Hid (y / 65536 ^ (k + 4) % 65536 ^ (4 - k) = b * 65536 + f) := Lib.hid (by
        have := to_step (y / 65536 ^ 4) k (by omega)
        rw [Nat.div_div_eq_div_mul, Nat.div_div_eq_div_mul, ← Nat.pow_add, ← Nat.pow_add, Nat.add_comm 4 k, show 4 + (k + 1) = k + 1 + 4 by omega, hb, hf] at this
        exact this)
      have cz : wr.cell? ⟨w.heap.size, 1 + k, none⟩ = some (.int .u64 (d : Int)) := by rw [I.bx.dig k (by omega), Int.natAbs_natCast, hd]
      have cy : wr.cell? ⟨w.heap.size, 1 + k4, none⟩ = some (.int .u64 (f : Int)) := by rw [I.bx.dig k4 (by omega), Int.natAbs_natCast, ← hk5, hf]
      have s1 : (((k + 1 : Nat) : Int) - 1) = (k : Int) := by omega
      have HI := Lib.hid I
      have k0 : (0 : Int) ≤ (k : Int) := by omega
      have k1 : (k : Int) < 20 := by omega
      have k00 : (0 : Int) ≤ (k4 : Int) := by omega
      have k11 : (k4 : Int) < 20 := by omega
      have E0 : IntKind.i64.wrap ((k : Int) + 4) = (k4 : Int) := by rw [IntKind.wrap_i64]; omega
      have E00 : (k : Int) + 4 = (k4 : Int) := by omega
      have E1 : IntKind.u64.wrap ((a : Int) * 65536) = ((a * 65536 : Nat) : Int) := by rw [IntKind.wrap_u64]; omega
      have E2 : IntKind.u64.wrap (((a * 65536 : Nat) : Int) + (d : Int)) = ((a * 65536 + d : Nat) : Int) := by rw [IntKind.wrap_u64]; omega
      have E3 : IntKind.u64.wrap ((b : Int) * 65536) = ((b * 65536 : Nat) : Int) := by rw [IntKind.wrap_u64]; omega
      have E4 : IntKind.u64.wrap (((b * 65536 : Nat) : Int) + (f : Int)) = ((b * 65536 + f : Nat) : Int) := by rw [IntKind.wrap_u64]; omega
      obtain ⟨A1, hA1⟩ : ∃ A1, a * 65536 = A1 := ⟨_, rfl⟩
      obtain ⟨A2, hA2⟩ : ∃ A2, A1 + d = A2 := ⟨_, rfl⟩
      obtain ⟨B1, hB1⟩ : ∃ B1, b * 65536 = B1 := ⟨_, rfl⟩
      obtain ⟨B2, hB2⟩ : ∃ B2, B1 + f = B2 := ⟨_, rfl⟩
      rw [hA1] at E1 E2
      rw [hA2] at E2
      rw [hB1] at E3 E4
      rw [hB2] at E4
      rw [ha, hb, s1]
      have N3 : Hid (y / 65536 ^ k % 65536 ^ (4 - k) = A2) := Lib.hid (by rw [N1.out, hA1, hA2])
      have N4 : Hid (y / 65536 ^ (k + 4) % 65536 ^ (4 - k) = B2) := Lib.hid (by rw [N2.out, hB1, hB2])
      clear I ha hb hd hf hk5 s1 hA1 hA2 hB1 hB2 N1 N2 al bl dl fl
      go_wp2_with fail
      go_roundg k
      case measure => omega
      case rel =>
        refine ⟨k, rfl, ?_, ?_, ?_, by omega, HI.out⟩
        · rw [N3.out]
        · rw [N4.out]
        · go_num
    | zero =>
      have HI := Lib.hid I
      have e1 : y / 65536 ^ 0 % 65536 ^ (4 - 0) = lo := by rw [Nat.pow_zero, Nat.div_one]; exact hlo.out
      have e2 : y / 65536 ^ (0 + 4) % 65536 ^ (4 - 0) = hi := hhi.out
      rw [e1, e2]
      have BR := Lib.hid I.br
      clear I e1 e2
      have n0 : ¬ (0 : Int) ≤ ((0 : Nat) : Int) - 1 := by omega
      have c0 := BR.out.c0
      have c1 := BR.out.c1
      have f0 := BR.out.fr 0
      have f1 := BR.out.fr 1
      go_wp2_with fail
      (try simp only [Exit.inBlock, Exit.then])
      refine bodyPost_ret (v := .tuple #[.agg #[.int .i64 h, .int .u64 lo], .bool true]) (results_row_tmp rfl _ _ (w.heap.size + 1) _ _ _ _ _ rfl (WideAt.put2 (h := h) (l := lo) BR.out) Try.underlying85 rfl (by kernel_rfl) rfl) rfl ?_
      exact ⟨rfl, Below.put2 HI.out.below (by omega) _ _⟩
set_option maxRecDepth 100000 in
set_option maxHeartbeats 4000000 in
theorem to_neg (x t n t2 : Int) (y lo hi : Nat) (h : Int) (w : World) (cT : Hid (Ans 60 #[.int .i64 127] (.agg (bv t)))) (cL : Hid (Ans 61 #[.agg (bv x), .agg (bv t)] (.bool true))) (cN : Hid (Ans 59 #[.agg (bv t)] (.agg (bv n)))) (cL2 : Hid (Ans 61 #[.agg (bv x), .agg (bv n)] (.bool false))) (hlo : Hid (y % 65536 ^ 4 = lo)) (hhi : Hid (y / 65536 ^ 4 % 65536 ^ 4 = hi)) (hh : IntKind.i64.wrap (hi : Int) = h) (hneg : Hid (x < 0)) (cT2 : Hid (Ans 60 #[.int .i64 128] (.agg (bv t2)))) (cA : Hid (Ans 58 #[.agg (bv x), .agg (bv t2)] (.agg (bv (y : Int)))))
    : Calls Try.prog 44 #[.agg (bv x)] w (fun e w' => e = .returned (.tuple #[.agg #[.int .i64 h, .int .u64 lo], .bool true]) ∧ Below w.heap.size w w') := by
  go_enter Try.func44, Try.ntmps44
  go_wp2_with fail
  refine (cT.out _).mono ?_
  rintro e w1 ⟨rfl, hb1⟩
  have rX : BigAt w.heap.size x (w1.alloc (.cells (bv t) 79)) := step_row (BigAt.below hb1 (step_row (heap_alloc_new _ _)))
  have rR : WideAt (w.heap.size + 1) 0 0 (w1.alloc (.cells (bv t) 79)) := step_row (WideAt.below hb1 (heap_alloc2_new _ _ _))
  have rT : BigAt w1.heap.size t (w1.alloc (.cells (bv t) 79)) := heap_alloc_new _ _
  have htrue : Below w.heap.size w w1 := (by go_grown : Below w.heap.size w ((w.alloc (.cells (bv x) 79)).alloc (.cells #[.int .i64 0, .int .u64 0] 85))).trans (hb1.mono (by simp; omega))
  have hBV : Below w.heap.size w (w1.alloc (.cells (bv t) 79)) := htrue.alloc htrue.size _
  have hsz : w.heap.size + 1 < w1.heap.size := by have := hb1.size; simp at this; omega
  clear hb1 htrue
  go_wp2_with (refine wpList_store_new rfl 79 (.tmp 4) (.tmp 8) rfl w1.heap.size _ _ (bv t) rfl rfl rfl (bv_info _) (bv_same 0 _) (bv_one _) ?_)
  generalize (w1.alloc (.cells (bv t) 79)) = V at rX rR rT hBV ⊢
  generalize w1.heap.size = B at rT hsz ⊢
  have HX := Lib.hid rX
  have HR := Lib.hid rR
  have HT := Lib.hid rT
  have HBV := Lib.hid hBV
  clear rX rR rT hBV
  try rename_i KK hKK
  refine (wpIn_wide (n := 5)).1 (held_region (F := Fence.wide) (S := fun X => Below V.heap.size V X) (by kernel_rfl) (bdrew0 _ _ 1) (fun hHeld => ?_))
  refine held_take (fun _ => trivial) (by kernel_rfl) (i := 0) (oi := _) (v := .agg (bv x)) rfl (by kernel_rfl) (by kernel_rfl) (by kernel_rfl) (fun _ _ _ h => h) (by assumption) (Or.inl ⟨by kernel_rfl, ?_⟩) ?_
  · intro wz hSw; exact exec_load_row 79 (.tmp 1) (by kernel_rfl) (w.heap.size) (by kernel_rfl) _ _ _ _ (BigAt.below hSw HX.out) Try.underlying79 (by kernel_rfl) (bv_info _)
  (try simp only [Act.put, List.getElem_toArray, List.getElem_cons_zero, List.getElem_cons_succ, List.setIfInBounds_toArray, List.set_cons_zero, List.set_cons_succ])
  refine held_take (fun _ => trivial) (by kernel_rfl) (i := 1) (oi := _) (v := .agg (bv t)) rfl (by kernel_rfl) (by kernel_rfl) (by kernel_rfl) (fun _ _ _ h => h) (by assumption) (Or.inl ⟨by kernel_rfl, ?_⟩) ?_
  · intro wz hSw; exact exec_load_row 79 (.tmp 4) (by kernel_rfl) (B) (by kernel_rfl) _ _ _ _ (BigAt.below hSw HT.out) Try.underlying79 (by kernel_rfl) (bv_info _)
  (try simp only [Act.put, List.getElem_toArray, List.getElem_cons_zero, List.getElem_cons_succ, List.setIfInBounds_toArray, List.set_cons_zero, List.set_cons_succ])
  refine held_step (fun _ => trivial) (i := 2) (o := _) (by kernel_rfl) rfl (fun K hK => ?_)
  go_simp
  refine ⟨trivial, callsIn_wide.2 ((cL.out _).mono ?_)⟩
  rintro e x1 ⟨rfl, hb1⟩
  dsimp only
  refine hK.out _ _ (bnext hHeld hb1) (fun hHeld => ?_)
  clear hK K
  (try simp only [Act.put, List.getElem_toArray, List.getElem_cons_zero, List.getElem_cons_succ, List.setIfInBounds_toArray, List.set_cons_zero, List.set_cons_succ])
  refine held_take (fun _ => trivial) (by kernel_rfl) (i := 3) (oi := _) (v := ?_) rfl (by kernel_rfl) (by kernel_rfl) (by kernel_rfl) (fun _ _ _ h => h) (by assumption) (Or.inl ⟨by kernel_rfl, ?_⟩) ?_
  rotate_left
  · intro wz hSw; (first | (go_simp; done) | (go_simp; with_reducible rfl))
  (try simp only [Act.put, List.getElem_toArray, List.getElem_cons_zero, List.getElem_cons_succ, List.setIfInBounds_toArray, List.set_cons_zero, List.set_cons_succ])
  refine held_take (fun _ => trivial) (by kernel_rfl) (i := 4) (oi := _) (v := ?_) rfl (by kernel_rfl) (by kernel_rfl) (by kernel_rfl) (fun _ _ _ h => h) (by assumption) (Or.inl ⟨by kernel_rfl, ?_⟩) ?_
  rotate_left
  · intro wz hSw; (first | (go_simp; done) | (go_simp; with_reducible rfl))
  (try simp only [Act.put, List.getElem_toArray, List.getElem_cons_zero, List.getElem_cons_succ, List.setIfInBounds_toArray, List.set_cons_zero, List.set_cons_succ])
  refine held_take (fun _ => trivial) (by kernel_rfl) (i := 5) (oi := _) (v := .agg (bv x)) rfl (by kernel_rfl) (by kernel_rfl) (by kernel_rfl) (fun _ _ _ h => h) (by assumption) (Or.inl ⟨by kernel_rfl, ?_⟩) ?_
  · intro wz hSw; exact exec_load_row 79 (.tmp 1) (by kernel_rfl) (w.heap.size) (by kernel_rfl) _ _ _ _ (BigAt.below hSw HX.out) Try.underlying79 (by kernel_rfl) (bv_info _)
  (try simp only [Act.put, List.getElem_toArray, List.getElem_cons_zero, List.getElem_cons_succ, List.setIfInBounds_toArray, List.set_cons_zero, List.set_cons_succ])
  refine held_take (fun _ => trivial) (by kernel_rfl) (i := 6) (oi := _) (v := .agg (bv t)) rfl (by kernel_rfl) (by kernel_rfl) (by kernel_rfl) (fun _ _ _ h => h) (by assumption) (Or.inl ⟨by kernel_rfl, ?_⟩) ?_
  · intro wz hSw; exact exec_load_row 79 (.tmp 4) (by kernel_rfl) (B) (by kernel_rfl) _ _ _ _ (BigAt.below hSw HT.out) Try.underlying79 (by kernel_rfl) (bv_info _)
  (try simp only [Act.put, List.getElem_toArray, List.getElem_cons_zero, List.getElem_cons_succ, List.setIfInBounds_toArray, List.set_cons_zero, List.set_cons_succ])
  refine held_step (fun _ => trivial) (i := 7) (o := _) (by kernel_rfl) rfl (fun K hK => ?_)
  go_simp
  refine ⟨trivial, callsIn_wide.2 ((cN.out _).mono ?_)⟩
  rintro e x2 ⟨rfl, hb2⟩
  dsimp only
  refine hK.out _ _ (bnext hHeld hb2) (fun hHeld => ?_)
  clear hK K
  (try simp only [Act.put, List.getElem_toArray, List.getElem_cons_zero, List.getElem_cons_succ, List.setIfInBounds_toArray, List.set_cons_zero, List.set_cons_succ])
  refine held_step (fun _ => trivial) (i := 8) (o := _) (by kernel_rfl) rfl (fun K hK => ?_)
  go_simp
  refine ⟨trivial, callsIn_wide.2 ((cL2.out _).mono ?_)⟩
  rintro e x3 ⟨rfl, hb3⟩
  dsimp only
  refine hK.out _ _ (bnext hHeld hb3) (fun hHeld => ?_)
  clear hK K
  (try simp only [Act.put, List.getElem_toArray, List.getElem_cons_zero, List.getElem_cons_succ, List.setIfInBounds_toArray, List.set_cons_zero, List.set_cons_succ])
  refine held_take (fun _ => trivial) (by kernel_rfl) (i := 9) (oi := _) (v := ?_) rfl (by kernel_rfl) (by kernel_rfl) (by kernel_rfl) (fun _ _ _ h => h) (by assumption) (Or.inl ⟨by kernel_rfl, ?_⟩) ?_
  rotate_left
  · intro wz hSw; (first | (go_simp; done) | (go_simp; with_reducible rfl))
  (try simp only [Act.put, List.getElem_toArray, List.getElem_cons_zero, List.getElem_cons_succ, List.setIfInBounds_toArray, List.set_cons_zero, List.set_cons_succ])
  refine held_done (by kernel_rfl) ?_ _
  first | (refine hKK _ _ ?_) | skip
  have rX2 := BigAt.below hHeld HX.out
  have rR2 := WideAt.below hHeld HR.out
  have HB := bnext HBV.out hHeld
  have hd := rX2.head
  rw [decide_eq_true hneg.out] at hd
  have HX2 := Lib.hid rX2
  have HR2 := Lib.hid rR2
  have HBB := Lib.hid HB
  clear hHeld HX HT HR HBV rX2 rR2 HB hsz
  go_wp2_with fail
  try rename_i KK2 hKK2
  have HTT : ∀ (X : World), ToI y w X → KK2 { tmps := #[.agg (bv x), .pointer (some ⟨w.heap.size, 0, none⟩), .pointer (some ⟨w.heap.size + 1, 0, none⟩), .bool false, .pointer (some ⟨B, 0, none⟩), undef, undef, undef, .agg (bv t), .agg (bv x), .agg (bv t), .bool true, .bool false, .bool false, .agg (bv x), .agg (bv t), .agg (bv n), .bool false, .bool false, undef, .pointer (some ⟨w.heap.size, 0, none⟩), .bool true, .agg (bv x), .agg (bv t2), .agg (bv (y : Int)), undef, undef, undef, undef, undef, undef, undef, undef, undef, undef, undef, undef, undef, undef, undef, undef, undef, undef, undef, undef, undef, undef, undef], defers := [] } X := by
    intro X hX
    refine hKK2 _ _ ?_
    have HI0 := Lib.hid hX
    clear hX
    go_wp2_with fail
    go_loopg [5, 6, 7] 4 (ToRel y w)
    case atStart => exact ⟨4, rfl, by simp [Nat.mod_one], by simp [Nat.mod_one], rfl, by omega, HI0.out⟩
    case round =>
      clear HI0
      obtain ⟨k, rfl, rfl, rfl, rfl, hk4, I⟩ := hrel
      cases gk with
      | succ k =>
        obtain ⟨a, ha⟩ : ∃ a, y / 65536 ^ (k + 1) % 65536 ^ (4 - (k + 1)) = a := ⟨_, rfl⟩
        obtain ⟨b, hb⟩ : ∃ b, y / 65536 ^ (k + 1 + 4) % 65536 ^ (4 - (k + 1)) = b := ⟨_, rfl⟩
        obtain ⟨d, hd⟩ : ∃ d, y / 65536 ^ k % 65536 = d := ⟨_, rfl⟩
        obtain ⟨f, hf⟩ : ∃ f, y / 65536 ^ (k + 4) % 65536 = f := ⟨_, rfl⟩
        obtain ⟨k4, hk5⟩ : ∃ k4, k + 4 = k4 := ⟨_, rfl⟩
        have al : a < 281474976710656 := by rw [← ha]; exact to_lt _ _ (by omega)
        have bl : b < 281474976710656 := by rw [← hb]; exact to_lt _ _ (by omega)
        have dl : d < 65536 := by omega
        have fl : f < 65536 := by omega
        have N1 : Hid (y / 65536 ^ k % 65536 ^ (4 - k) = a * 65536 + d) := Lib.hid (by rw [to_step y k (by omega), ha, hd])
        have N2 : Hid (y / 65536 ^ (k + 4) % 65536 ^ (4 - k) = b * 65536 + f) := Lib.hid (by
          have := to_step (y / 65536 ^ 4) k (by omega)
          rw [Nat.div_div_eq_div_mul, Nat.div_div_eq_div_mul, ← Nat.pow_add, ← Nat.pow_add, Nat.add_comm 4 k, show 4 + (k + 1) = k + 1 + 4 by omega, hb, hf] at this
          exact this)
        have cz : wr.cell? ⟨w.heap.size, 1 + k, none⟩ = some (.int .u64 (d : Int)) := by rw [I.bx.dig k (by omega), Int.natAbs_natCast, hd]
        have cy : wr.cell? ⟨w.heap.size, 1 + k4, none⟩ = some (.int .u64 (f : Int)) := by rw [I.bx.dig k4 (by omega), Int.natAbs_natCast, ← hk5, hf]
        have s1 : (((k + 1 : Nat) : Int) - 1) = (k : Int) := by omega
        have HI := Lib.hid I
        have k0 : (0 : Int) ≤ (k : Int) := by omega
        have k1 : (k : Int) < 20 := by omega
        have k00 : (0 : Int) ≤ (k4 : Int) := by omega
        have k11 : (k4 : Int) < 20 := by omega
        have E0 : IntKind.i64.wrap ((k : Int) + 4) = (k4 : Int) := by rw [IntKind.wrap_i64]; omega
        have E00 : (k : Int) + 4 = (k4 : Int) := by omega
        have E1 : IntKind.u64.wrap ((a : Int) * 65536) = ((a * 65536 : Nat) : Int) := by rw [IntKind.wrap_u64]; omega
        have E2 : IntKind.u64.wrap (((a * 65536 : Nat) : Int) + (d : Int)) = ((a * 65536 + d : Nat) : Int) := by rw [IntKind.wrap_u64]; omega
        have E3 : IntKind.u64.wrap ((b : Int) * 65536) = ((b * 65536 : Nat) : Int) := by rw [IntKind.wrap_u64]; omega
        have E4 : IntKind.u64.wrap (((b * 65536 : Nat) : Int) + (f : Int)) = ((b * 65536 + f : Nat) : Int) := by rw [IntKind.wrap_u64]; omega
        obtain ⟨A1, hA1⟩ : ∃ A1, a * 65536 = A1 := ⟨_, rfl⟩
        obtain ⟨A2, hA2⟩ : ∃ A2, A1 + d = A2 := ⟨_, rfl⟩
        obtain ⟨B1, hB1⟩ : ∃ B1, b * 65536 = B1 := ⟨_, rfl⟩
        obtain ⟨B2, hB2⟩ : ∃ B2, B1 + f = B2 := ⟨_, rfl⟩
        rw [hA1] at E1 E2
        rw [hA2] at E2
        rw [hB1] at E3 E4
        rw [hB2] at E4
        rw [ha, hb, s1]
        have N3 : Hid (y / 65536 ^ k % 65536 ^ (4 - k) = A2) := Lib.hid (by rw [N1.out, hA1, hA2])
        have N4 : Hid (y / 65536 ^ (k + 4) % 65536 ^ (4 - k) = B2) := Lib.hid (by rw [N2.out, hB1, hB2])
        clear I ha hb hd hf hk5 s1 hA1 hA2 hB1 hB2 N1 N2 al bl dl fl
        go_wp2_with fail
        go_roundg k
        case measure => omega
        case rel =>
          refine ⟨k, rfl, ?_, ?_, ?_, by omega, HI.out⟩
          · rw [N3.out]
          · rw [N4.out]
          · go_num
      | zero =>
        have HI := Lib.hid I
        have e1 : y / 65536 ^ 0 % 65536 ^ (4 - 0) = lo := by rw [Nat.pow_zero, Nat.div_one]; exact hlo.out
        have e2 : y / 65536 ^ (0 + 4) % 65536 ^ (4 - 0) = hi := hhi.out
        rw [e1, e2]
        have BR := Lib.hid I.br
        clear I e1 e2
        have n0 : ¬ (0 : Int) ≤ ((0 : Nat) : Int) - 1 := by omega
        have c0 := BR.out.c0
        have c1 := BR.out.c1
        have f0 := BR.out.fr 0
        have f1 := BR.out.fr 1
        go_wp2_with fail
        (try simp only [Exit.inBlock, Exit.then])
        refine bodyPost_ret (v := .tuple #[.agg #[.int .i64 h, .int .u64 lo], .bool true]) (results_row_tmp rfl _ _ (w.heap.size + 1) _ _ _ _ _ rfl (WideAt.put2 (h := h) (l := lo) BR.out) Try.underlying85 rfl (by kernel_rfl) rfl) rfl ?_
        exact ⟨rfl, Below.put2 HI.out.below (by omega) _ _⟩
  refine (wpIn_wide (n := 5)).1 (held_region (F := Fence.wide) (S := fun X => True) (by kernel_rfl) trivial (fun hHeld => ?_))
  clear hHeld
  have hs0 : ToS x w x3.drew := ToS.up ⟨HX2.out, HR2.out, HBB.out⟩ (bdrew0 _ _ 1)
  refine held_step2 (fun _ => trivial) (i := 0) (j := 1) (o := _) (o2 := _) (by kernel_rfl) rfl rfl (fun K hK => ?_) (fun K hK => ?_)
  · rw [if_pos (by kernel_rfl)]
    refine wpIn_load_row (fun _ => trivial) 79 (.tmp 1) (by kernel_rfl) (w.heap.size) (by kernel_rfl) _ (bv x) _ _ hs0.bx Try.underlying79 (by kernel_rfl) (bv_info _) ?_
    refine hK.out _ _ trivial (fun _ => ?_)
    clear hK K
    (try simp only [Act.put, List.getElem_toArray, List.getElem_cons_zero, List.getElem_cons_succ, List.setIfInBounds_toArray, List.set_cons_zero, List.set_cons_succ])
    refine held_step (fun _ => trivial) (i := 1) (o := _) (by kernel_rfl) rfl (fun K hK => ?_)
    go_simp
    refine ⟨trivial, callsIn_wide.2 ((cT2.out _).mono ?_)⟩
    rintro e x4 ⟨rfl, hb4⟩
    dsimp only
    have hs1 := ToS.up hs0 hb4
    refine hK.out _ _ (trivial) (fun hHeld => ?_)
    clear hK K
    (try simp only [Act.put, List.getElem_toArray, List.getElem_cons_zero, List.getElem_cons_succ, List.setIfInBounds_toArray, List.set_cons_zero, List.set_cons_succ])
    refine held_step (fun _ => trivial) (i := 2) (o := _) (by kernel_rfl) rfl (fun K hK => ?_)
    go_simp
    refine ⟨trivial, callsIn_wide.2 ((cA.out _).mono ?_)⟩
    rintro e x5 ⟨rfl, hb5⟩
    dsimp only
    have hs2 := ToS.up hs1 hb5
    refine hK.out _ _ (trivial) (fun hHeld => ?_)
    clear hK K
    (try simp only [Act.put, List.getElem_toArray, List.getElem_cons_zero, List.getElem_cons_succ, List.setIfInBounds_toArray, List.set_cons_zero, List.set_cons_succ])
    refine held_step (fun _ => trivial) (i := 3) (o := _) (by kernel_rfl) rfl (fun K hK => ?_)
    rw [if_pos (by kernel_rfl)]
    refine wpIn_store_row (fun _ => trivial) 79 (.tmp 1) (.tmp 24) (by kernel_rfl) (w.heap.size) _ _ (bv (y : Int)) (by kernel_rfl) (by kernel_rfl) hs2.bx (bv_info _) (bv_same _ _) (bv_one _) ?_
    refine hK.out _ _ trivial (fun _ => ?_)
    clear hK K
    (try simp only [Act.put, List.getElem_toArray, List.getElem_cons_zero, List.getElem_cons_succ, List.setIfInBounds_toArray, List.set_cons_zero, List.set_cons_succ])
    exact held_done (by kernel_rfl) (HTT _ (ToS.put y hs2)) _
  · go_simp
    refine ⟨trivial, callsIn_wide.2 ((cT2.out _).mono ?_)⟩
    rintro e x4 ⟨rfl, hb4⟩
    dsimp only
    have hs1 := ToS.up hs0 hb4
    refine hK.out _ _ (trivial) (fun hHeld => ?_)
    clear hK K
    (try simp only [Act.put, List.getElem_toArray, List.getElem_cons_zero, List.getElem_cons_succ, List.setIfInBounds_toArray, List.set_cons_zero, List.set_cons_succ])
    refine held_step (fun _ => trivial) (i := 0) (o := _) (by kernel_rfl) rfl (fun K hK => ?_)
    rw [if_pos (by kernel_rfl)]
    refine wpIn_load_row (fun _ => trivial) 79 (.tmp 1) (by kernel_rfl) (w.heap.size) (by kernel_rfl) _ (bv x) _ _ hs1.bx Try.underlying79 (by kernel_rfl) (bv_info _) ?_
    refine hK.out _ _ trivial (fun _ => ?_)
    clear hK K
    (try simp only [Act.put, List.getElem_toArray, List.getElem_cons_zero, List.getElem_cons_succ, List.setIfInBounds_toArray, List.set_cons_zero, List.set_cons_succ])
    refine held_step (fun _ => trivial) (i := 2) (o := _) (by kernel_rfl) rfl (fun K hK => ?_)
    go_simp
    refine ⟨trivial, callsIn_wide.2 ((cA.out _).mono ?_)⟩
    rintro e x5 ⟨rfl, hb5⟩
    dsimp only
    have hs2 := ToS.up hs1 hb5
    refine hK.out _ _ (trivial) (fun hHeld => ?_)
    clear hK K
    (try simp only [Act.put, List.getElem_toArray, List.getElem_cons_zero, List.getElem_cons_succ, List.setIfInBounds_toArray, List.set_cons_zero, List.set_cons_succ])
    refine held_step (fun _ => trivial) (i := 3) (o := _) (by kernel_rfl) rfl (fun K hK => ?_)
    rw [if_pos (by kernel_rfl)]
    refine wpIn_store_row (fun _ => trivial) 79 (.tmp 1) (.tmp 24) (by kernel_rfl) (w.heap.size) _ _ (bv (y : Int)) (by kernel_rfl) (by kernel_rfl) hs2.bx (bv_info _) (bv_same _ _) (bv_one _) ?_
    refine hK.out _ _ trivial (fun _ => ?_)
    clear hK K
    (try simp only [Act.put, List.getElem_toArray, List.getElem_cons_zero, List.getElem_cons_succ, List.setIfInBounds_toArray, List.set_cons_zero, List.set_cons_succ])
    exact held_done (by kernel_rfl) (HTT _ (ToS.put y hs2)) _
end Go.Proofs.Ytgkglkoipocgaaa.Fx
set_option linter.unusedVariables false
set_option linter.unusedSimpArgs false
namespace Go.Proofs.Ytgkglkoipocgaaa.Fx
open Go Go.RowKit Wm
def RetT (x : Int) (w : World) (e : Ending) (w' : World) : Prop := ∃ h : Int, ∃ l : Nat, e = .returned (.tuple #[.agg #[.int .i64 h, .int .u64 l], .bool (decide (In x))]) ∧ At (valE x) h l ∧ Below w.heap.size w w'
theorem to_z (x : Int) (w : World) (hx : x.natAbs < 65536 ^ 18) (hin : In x) : Calls Try.prog 44 #[.agg (bv x)] w (RetT x w) := by
  have e127 : (2 : Int) ^ 127 = 170141183460469231731687303715884105728 := by decide
  have e128 : (2 : Int) ^ 128 = 340282366920938463463374607431768211456 := by decide
  have e4 : (65536 : Nat) ^ 4 = 18446744073709551616 := by decide
  have e18 : (65536 : Nat) ^ 18 < BB - 340282366920938463463374607431768211456 := by decide
  have cT : Hid (Ans 60 #[.int .i64 127] (.agg (bv (2 ^ 127)))) := Lib.hid fun w => two_127 w
  have cT2 : Hid (Ans 60 #[.int .i64 128] (.agg (bv (2 ^ 128)))) := Lib.hid fun w => two_128 w
  have cN : Hid (Ans 59 #[.agg (bv (2 ^ 127))] (.agg (bv (-2 ^ 127)))) := Lib.hid fun w => neg_z _ w (by decide)
  have cL := fun w => less_z x (2 ^ 127) w (by rw [e127]; omega)
  have cL2 := fun w => less_z x (-2 ^ 127) w (by rw [e127]; omega)
  by_cases h1 : x < 2 ^ 127
  · rw [decide_eq_true h1] at cL
    by_cases h2 : x < -2 ^ 127
    · exact absurd hin (by unfold In; rw [e127] at h2; omega)
    · rw [decide_eq_false h2] at cL2
      have hn : In x := by unfold In; rw [e127] at h1 h2; omega
      rw [e127] at h1 h2
      by_cases h0 : x < 0
      · obtain ⟨y, hy⟩ : ∃ y : Nat, x + 2 ^ 128 = (y : Int) := ⟨(x + 2 ^ 128).natAbs, by rw [e128]; omega⟩
        have hy2 := hy
        rw [e128] at hy2
        obtain ⟨lo, hlo⟩ : ∃ lo, y % 65536 ^ 4 = lo := ⟨_, rfl⟩
        obtain ⟨hi, hhi⟩ : ∃ hi, y / 65536 ^ 4 % 65536 ^ 4 = hi := ⟨_, rfl⟩
        have hlo2 := hlo
        have hhi2 := hhi
        rw [e4] at hlo2 hhi2
        have hh : IntKind.i64.wrap (hi : Int) = (hi : Int) - 18446744073709551616 := by rw [IntKind.wrap_i64]; omega
        refine (to_neg x (2 ^ 127) (-2 ^ 127) (2 ^ 128) y lo hi _ w cT (Lib.hid cL) cN (Lib.hid cL2) (Lib.hid hlo) (Lib.hid hhi) hh (Lib.hid h0) cT2 (Lib.hid fun w => by
          have := add_z x (2 ^ 128) w (by rw [e128]; omega)
          rw [hy] at this
          exact this)).mono ?_
        rintro e w' ⟨rfl, hb⟩
        exact ⟨_, _, by rw [decide_eq_true hn], by unfold valE; rw [if_pos hn]; unfold At; omega, hb⟩
      · obtain ⟨y, hy⟩ : ∃ y : Nat, x = (y : Int) := ⟨x.natAbs, by omega⟩
        obtain ⟨lo, hlo⟩ : ∃ lo, y % 65536 ^ 4 = lo := ⟨_, rfl⟩
        obtain ⟨hi, hhi⟩ : ∃ hi, y / 65536 ^ 4 % 65536 ^ 4 = hi := ⟨_, rfl⟩
        have hlo2 := hlo
        have hhi2 := hhi
        rw [e4] at hlo2 hhi2
        have hh : IntKind.i64.wrap (hi : Int) = (hi : Int) := by rw [IntKind.wrap_i64]; omega
        refine (to_pos x (2 ^ 127) (-2 ^ 127) y lo hi _ w cT (Lib.hid cL) cN (Lib.hid cL2) (Lib.hid hlo) (Lib.hid hhi) hh (Lib.hid hy)).mono ?_
        rintro e w' ⟨rfl, hb⟩
        exact ⟨_, _, by rw [decide_eq_true hn], by unfold valE; rw [if_pos hn]; unfold At; omega, hb⟩
  · exact absurd hin (by unfold In; rw [e127] at h1; omega)
end Go.Proofs.Ytgkglkoipocgaaa.Fx
set_option linter.unusedVariables false
set_option linter.unusedSimpArgs false
namespace Go.Proofs.Ytgkglkoipocgaaa.Fx
open Go Go.RowKit Wm
theorem BigAt.set_sign {g : Nat} {z : Int} {W : World} (h : BigAt g z W) (b : Bool) : (W.setCell ⟨g, 0, none⟩ (.bool b)).heap[g]? = some (.cells (bigC b (dg z.natAbs)) 79 (0, 0)) := by
  rw [heap_setCell_same _ _ _ _ _ _ h]
  unfold bv
  rw [big_sign]
theorem BigAt.neg {g : Nat} {q : Nat} {W : World} (h : BigAt g (q : Int) W) (b : Bool) (z : Int) (hz : decide (z < 0) = b) (hq : z.natAbs = q) : BigAt g z (W.setCell ⟨g, 0, none⟩ (.bool b)) := by
  have := h.set_sign b
  unfold BigAt bv
  rw [hz, hq, this, Int.natAbs_natCast]
theorem dg_inc (r b : Nat) (hb : b ≤ 1) (hr : r % 2 = 0) : (dg r).set 0 (r % 65536 + b) = dg (r + b) := by
  unfold dg
  rw [show dgF 20 r = r % 65536 :: dgF 19 (r / 65536) from rfl, show dgF 20 (r + b) = (r + b) % 65536 :: dgF 19 ((r + b) / 65536) from rfl, List.set_cons_zero, show (r + b) % 65536 = r % 65536 + b by omega, show (r + b) / 65536 = r / 65536 by omega]
theorem BigAt.inc {g r b : Nat} {W : World} (h : BigAt g (r : Int) W) (hb : b ≤ 1) (hr : r % 2 = 0) : BigAt g ((r + b : Nat) : Int) (W.setCell ⟨g, 1, none⟩ (.int .u64 ((r % 65536 + b : Nat) : Int))) := by
  unfold BigAt
  rw [show (1 : Nat) = 1 + 0 from rfl, heap_setCell_same _ _ _ _ _ _ h]
  unfold bv
  rw [big_put, Int.natAbs_natCast, Int.natAbs_natCast, dg_inc r b hb hr]
  congr 3
theorem BigAt.row {g : Nat} {z : Int} {W : World} (h : BigAt g z W) (y : Int) : BigAt g y (W.setRow g (bv y)) := setRow_heap _ _ _ _ _ _ h
theorem BigAt.other {g k : Nat} {z : Int} {W : World} (h : BigAt g z W) (hk : g ≠ k) (c : Array Value) : BigAt g z (W.setRow k c) := by unfold BigAt; rw [setRow_other _ _ _ _ hk]; exact h
theorem BigAt.otherC {g k j : Nat} {z : Int} {W : World} (h : BigAt g z W) (hk : g ≠ k) (v : Value) : BigAt g z (W.setCell ⟨k, j, none⟩ v) := by unfold BigAt; rw [heap_setCell_other _ _ _ _ (by show g ≠ k; exact hk)]; exact h
theorem bv_nat (n : Nat) : bv (n : Int) = bigC false (dg n) := by
  unfold bv
  rw [decide_eq_false (by omega), Int.natAbs_natCast]
theorem more_n (a b : Nat) (w : World) : Calls Try.prog 55 #[.agg (bv (a : Int)), .agg (bv (b : Int))] w (RetZ ((a + b : Nat) : Int) w) := by
  have := more_any false false (dg a) (dg b) w (dg_dg _) (dg_dg _)
  rw [add_dg, ← bv_nat, ← bv_nat] at this
  refine this.mono ?_
  rintro e w' ⟨rfl, hb⟩
  exact ⟨by rw [bv_nat], hb⟩
theorem less_n (a b : Nat) (w : World) (ha : a < BB) (hb : b < BB) : Calls Try.prog 56 #[.agg (bv (a : Int)), .agg (bv (b : Int))] w fun e w' => e = .returned (.bool (decide (a < b))) ∧ Below w.heap.size w w' := by
  have := less_big false false (dg a) (dg b) w (dg_len _) (dg_len _)
  rw [less_dg ha hb, ← bv_nat, ← bv_nat] at this
  exact this
theorem away_n (a b : Nat) (w : World) (h : b ≤ a) : Calls Try.prog 57 #[.agg (bv (a : Int)), .agg (bv (b : Int))] w (RetZ ((a - b : Nat) : Int) w) := by
  have := away_any false false (dg a) (dg b) w (dg_dg _) (dg_dg _)
  rw [sub_dg h, ← bv_nat, ← bv_nat] at this
  refine this.mono ?_
  rintro e w' ⟨rfl, hb⟩
  exact ⟨by rw [bv_nat], hb⟩
theorem none_z (z : Int) (b : Bool) (w : World) (hz : z.natAbs < BB) (hb : decide (z = 0) = b) : Calls Try.prog 54 #[.agg (bv z)] w fun e w' => e = .returned (.bool b) ∧ Below w.heap.size w w' := by
  have := none_any (decide (z < 0)) (dg z.natAbs) w (dg_len _)
  rw [dg_zero hz] at this
  rw [show b = decide (z.natAbs = 0) by rw [← hb, decide_eq_decide]; omega]
  exact this
structure DvI (x c : Int) (n q r B : Nat) (w W : World) : Prop where
  bx : BigAt w.heap.size x W
  bc : BigAt (w.heap.size + 1) c W
  r1 : BigAt (w.heap.size + 1 + 1) 0 W
  r2 : BigAt (w.heap.size + 1 + 1 + 1) 0 W
  bq : BigAt B (q : Int) W
  br : BigAt (B + 1) (r : Int) W
  bd : BigAt (B + 1 + 1) (n : Int) W
  hB : w.heap.size + 1 + 1 + 1 < B
  below : Below w.heap.size w W
theorem DvI.up {x c : Int} {n q r B : Nat} {w W X : World} (i : DvI x c n q r B w W) (hb : Below W.heap.size W X) : DvI x c n q r B w X :=
  ⟨BigAt.below hb i.bx, BigAt.below hb i.bc, BigAt.below hb i.r1, BigAt.below hb i.r2, BigAt.below hb i.bq, BigAt.below hb i.br, BigAt.below hb i.bd, i.hB, bnext i.below hb⟩
theorem DvI.putR {x c : Int} {n q r B : Nat} {w W : World} (i : DvI x c n q r B w W) (s : Nat) : DvI x c n q s B w (W.setRow (B + 1) (bv (s : Int))) := by
  have hB := i.hB
  exact ⟨i.bx.other (by omega) _, i.bc.other (by omega) _, i.r1.other (by omega) _, i.r2.other (by omega) _, i.bq.other (by omega) _, i.br.row _, i.bd.other (by omega) _, hB, Below.row i.below (by omega) _⟩
theorem DvI.putQ {x c : Int} {n q r B : Nat} {w W : World} (i : DvI x c n q r B w W) (s : Nat) : DvI x c n s r B w (W.setRow B (bv (s : Int))) := by
  have hB := i.hB
  exact ⟨i.bx.other (by omega) _, i.bc.other (by omega) _, i.r1.other (by omega) _, i.r2.other (by omega) _, i.bq.row _, i.br.other (by omega) _, i.bd.other (by omega) _, hB, Below.row i.below (by omega) _⟩
theorem DvI.incR {x c : Int} {n q r B : Nat} {w W : World} (i : DvI x c n q r B w W) {b : Nat} (hb : b ≤ 1) (hr : r % 2 = 0) : DvI x c n q (r + b) B w (W.setCell ⟨B + 1, 1, none⟩ (.int .u64 ((r % 65536 + b : Nat) : Int))) := by
  have hB := i.hB
  exact ⟨i.bx.otherC (by omega) _, i.bc.otherC (by omega) _, i.r1.otherC (by omega) _, i.r2.otherC (by omega) _, i.bq.otherC (by omega) _, i.br.inc hb hr, i.bd.otherC (by omega) _, hB, i.below.setCell (p := ⟨B + 1, 1, none⟩) (by show _ ≤ B + 1; omega) _⟩
theorem DvI.incQ {x c : Int} {n q r B : Nat} {w W : World} (i : DvI x c n q r B w W) (hr : q % 2 = 0) : DvI x c n (q + 1) r B w (W.setCell ⟨B, 1, none⟩ (.int .u64 ((q % 65536 + 1 : Nat) : Int))) := by
  have hB := i.hB
  exact ⟨i.bx.otherC (by omega) _, i.bc.otherC (by omega) _, i.r1.otherC (by omega) _, i.r2.otherC (by omega) _, i.bq.inc (by omega) hr, i.br.otherC (by omega) _, i.bd.otherC (by omega) _, hB, i.below.setCell (p := ⟨B, 1, none⟩) (by show _ ≤ B; omega) _⟩
def DoRel (x c : Int) (m n B : Nat) (w : World) (g : Nat) (s : Value) (W : World) : Prop :=
  g ≤ 144 ∧ s = .int .i64 ((g : Int) - 1) ∧ DvI x c n (m / 2 ^ g / n) (m / 2 ^ g % n) B w W
def DiRel (x c : Int) (n q r B D e : Nat) (w : World) (g : Nat) (s11 s12 : Value) (W : World) : Prop :=
  ∃ j : Nat, g = e - j ∧ s11 = .int .u64 ((D / 2 ^ j : Nat) : Int) ∧ s12 = .int .i64 (j : Int) ∧ j ≤ e ∧ DvI x c n q r B w W
theorem dv_step {m n k q r b : Nat} (hn : 0 < n) (hq : m / 2 ^ (k + 1) / n = q) (hr : m / 2 ^ (k + 1) % n = r) (hb : m / 2 ^ k % 2 = b) :
    (r + r + b < n → m / 2 ^ k / n = q + q ∧ m / 2 ^ k % n = r + r + b) ∧ (¬ r + r + b < n → m / 2 ^ k / n = q + q + 1 ∧ m / 2 ^ k % n = r + r + b - n) := by
  have h1 : m / 2 ^ (k + 1) = m / 2 ^ k / 2 := by rw [Nat.pow_succ, Nat.div_div_eq_div_mul]
  rw [h1] at hq hr
  generalize m / 2 ^ k = M at *
  have h2 := Nat.div_add_mod (M / 2) n
  rw [hq, hr] at h2
  have hrn : r < n := by rw [← hr]; exact Nat.mod_lt _ hn
  have h3 : n * (q + q) = n * q + n * q := Nat.mul_add _ _ _
  have h4 : n * (q + q + 1) = n * q + n * q + n := by rw [Nat.mul_add, h3, Nat.mul_one]
  refine ⟨fun h => (Nat.div_mod_unique hn).2 ⟨?_, h⟩, fun h => (Nat.div_mod_unique hn).2 ⟨?_, by omega⟩⟩
  · omega
  · omega
theorem dv_bit (m k : Nat) : m / 65536 ^ (k / 16) % 65536 / 2 ^ (k % 16) % 2 = m / 2 ^ k % 2 := by
  have e1 : (65536 : Nat) ^ (k / 16) = 2 ^ (16 * (k / 16)) := by rw [show (65536 : Nat) = 2 ^ 16 by decide, ← Nat.pow_mul]
  have e2 : k = 16 * (k / 16) + k % 16 := by omega
  have e3 : m / 2 ^ k = m / 2 ^ (16 * (k / 16)) / 2 ^ (k % 16) := by
    conv => lhs; rw [e2, Nat.pow_add, ← Nat.div_div_eq_div_mul]
  rw [e1, e3]
  generalize m / 2 ^ (16 * (k / 16)) = u
  have e4 : (65536 : Nat) = 2 ^ (k % 16) * 2 ^ (16 - k % 16) := by rw [← Nat.pow_add, show k % 16 + (16 - k % 16) = 16 by omega]
  rw [e4, Nat.mod_mul_right_div_self, show 16 - k % 16 = 1 + (15 - k % 16) by omega, Nat.pow_add, Nat.pow_one, Nat.mod_mul_right_mod]
theorem dv_le {m n r k : Nat} (hn : 0 < n) (h : m / 2 ^ k % n = r) : r < n := by rw [← h]; exact Nat.mod_lt _ hn
end Go.Proofs.Ytgkglkoipocgaaa.Fx
