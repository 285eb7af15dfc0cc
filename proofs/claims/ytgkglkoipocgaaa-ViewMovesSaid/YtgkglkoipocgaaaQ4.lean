/- The document's Apply, walked. 
  The document's product of matrices, walked. -/
import Derived.Test.YtgkglkoipocgaaaProg
import Derived.Test.YtgkglkoipocgaaaQ2
set_option linter.unusedVariables false
set_option linter.unusedSimpArgs false
namespace Go.Proofs.Ytgkglkoipocgaaa.Fx
open Go Go.RowKit Wm
theorem wB_pad (b v0 v1 v2 v3 : Int) : wB b [v0, v1, v2, v3, 0, 0, 0, 0, 0, 0, 0, 0, 0, 0, 0, 0] 16 = wB b [v0, v1, v2, v3] 4 := by
  rw [Bool.eq_iff_iff, wB_iff, wB_iff]
  constructor
  · intro h j hj
    have := h j (by omega)
    have hd : j = 0 ∨ j = 1 ∨ j = 2 ∨ j = 3 := by omega
    rcases hd with rfl | rfl | rfl | rfl <;> exact this
  · intro h j hj
    have h0 : 0 ≤ b := (h 0 (by omega)).1
    by_cases h4 : j < 4
    · have := h j h4
      have hd : j = 0 ∨ j = 1 ∨ j = 2 ∨ j = 3 := by omega
      rcases hd with rfl | rfl | rfl | rfl <;> exact this
    · have e : [v0, v1, v2, v3, 0, 0, 0, 0, 0, 0, 0, 0, 0, 0, 0, 0].getD j 0 = 0 := by
        have hd : j = 4 ∨ j = 5 ∨ j = 6 ∨ j = 7 ∨ j = 8 ∨ j = 9 ∨ j = 10 ∨ j = 11 ∨ j = 12 ∨ j = 13 ∨ j = 14 ∨ j = 15 := by omega
        rcases hd with rfl | rfl | rfl | rfl | rfl | rfl | rfl | rfl | rfl | rfl | rfl | rfl <;> rfl
      rw [e]
      omega
theorem ap_bad {m v : List Int} {j : Nat} (hj : j < 4) (h : okB 4611686018427387904 (pq (rowOf m j) v) = false) : apO m v = none := by
  unfold apO
  rw [if_neg]
  rintro ⟨_, _, h3⟩
  have h4 := wB_iff.1 h3 j hj
  have e : (apRows m v).getD j 0 = pq (rowOf m j) v := by
    have hd : j = 0 ∨ j = 1 ∨ j = 2 ∨ j = 3 := by omega
    rcases hd with rfl | rfl | rfl | rfl <;> rfl
  rw [e] at h4
  unfold okB at h
  have := of_decide_eq_false h
  exact this h4
theorem ap_good {m v : List Int} (h1 : wB 4611686018427387904 m 16 = true) (h2 : wB 4611686018427387904 v 4 = true) (h : ∀ j, j < 4 → okB 4611686018427387904 (pq (rowOf m j) v) = true) : apO m v = some (apRows m v) := by
  unfold apO
  rw [if_pos]
  refine ⟨h1, h2, wB_iff.2 fun j hj => ?_⟩
  have h4 := h j hj
  have e : (apRows m v).getD j 0 = pq (rowOf m j) v := by
    have hd : j = 0 ∨ j = 1 ∨ j = 2 ∨ j = 3 := by omega
    rcases hd with rfl | rfl | rfl | rfl <;> rfl
  rw [e]
  unfold okB at h4
  exact of_decide_eq_true h4
theorem ap_no1 {m v : List Int} (h : wB 4611686018427387904 m 16 = false) : apO m v = none := by
  unfold apO
  rw [if_neg]
  rintro ⟨h1, _⟩
  rw [h] at h1
  cases h1
theorem ap_no2 {m v : List Int} (h : wB 4611686018427387904 v 4 = false) : apO m v = none := by
  unfold apO
  rw [if_neg]
  rintro ⟨_, h1, _⟩
  rw [h] at h1
  cases h1
def ZpRel (m : List Int) (v0 v1 v2 v3 : Int) (B : Nat) (w : World) (g : Nat) (s : Value) (W : World) : Prop :=
  ∃ r, g = 4 - r ∧ s = .int .i64 (r : Int) ∧ r ≤ 4 ∧ (∀ j, j < r → okB 4611686018427387904 (pq (rowOf m j) [v0, v1, v2, v3]) = true) ∧ AI m v0 v1 v2 v3 r B w W
theorem RowAt.put4 {t : TypeId} {g : Nat} {x0 x1 x2 x3 : Value} {W : World} (h : RowAt t g #[x0, x1, x2, x3] W) (y0 y1 y2 y3 : Value) : RowAt t g #[y0, y1, y2, y3] ((((W.setCell ⟨g, 0, none⟩ y0).setCell ⟨g, 1, none⟩ y1).setCell ⟨g, 2, none⟩ y2).setCell ⟨g, 3, none⟩ y3) := by
  have h1 := heap_setCell_same W _ 0 _ _ y0 h
  have h2 := heap_setCell_same _ _ 1 _ _ y1 h1
  have h3 := heap_setCell_same _ _ 2 _ _ y2 h2
  exact heap_setCell_same _ _ 3 _ _ y3 h3
theorem Below.put4 {w W : World} {g : Nat} (h : Below w.heap.size w W) (hg : w.heap.size ≤ g) (y0 y1 y2 y3 : Value) : Below w.heap.size w ((((W.setCell ⟨g, 0, none⟩ y0).setCell ⟨g, 1, none⟩ y1).setCell ⟨g, 2, none⟩ y2).setCell ⟨g, 3, none⟩ y3) :=
  (((h.setCell (p := ⟨g, 0, none⟩) hg _).setCell (p := ⟨g, 1, none⟩) hg _).setCell (p := ⟨g, 2, none⟩) hg _).setCell (p := ⟨g, 3, none⟩) hg _
theorem size4 : (Try.prog.info? 23).map (·.size) = some 4 := by kernel_rfl
theorem bound_row {m : List Int} (h : ∀ j, -9223372036854775808 ≤ m.getD j 0 ∧ m.getD j 0 ≤ 9223372036854775807) (r : Nat) : ∀ j, -9223372036854775808 ≤ (rowOf m r).getD j 0 ∧ (rowOf m r).getD j 0 ≤ 9223372036854775807 := by
  intro j
  unfold rowOf
  match j with
  | 0 => exact h _
  | 1 => exact h _
  | 2 => exact h _
  | 3 => exact h _
  | j + 4 => simp
set_option maxRecDepth 100000 in
set_option maxHeartbeats 8000000 in
theorem zapply4 (m : List Int) (v0 v1 v2 v3 : Int) (w : World) (hm : m.length = 16) (bm : ∀ j, -9223372036854775808 ≤ m.getD j 0 ∧ m.getD j 0 ≤ 9223372036854775807) (bv0 : ∀ j, -9223372036854775808 ≤ [v0, v1, v2, v3].getD j 0 ∧ [v0, v1, v2, v3].getD j 0 ≤ 9223372036854775807) :
    Calls Try.prog 37 #[.agg (mC m), .agg #[.int .i64 v0, .int .i64 v1, .int .i64 v2, .int .i64 v3]] w (RetV (apO m [v0, v1, v2, v3]) w) := by
  have HM := Lib.hid hm
  have hinf : (Try.prog.info? 44).map (·.size) = some (mC m).size := by rw [size16, mC_size, hm]
  have HINF := Lib.hid hinf
  have h3 := block3s w (.cells (mC m) 44) (.cells #[.int .i64 v0, .int .i64 v1, .int .i64 v2, .int .i64 v3] 23) (.cells #[.int .i64 0, .int .i64 0, .int .i64 0, .int .i64 0] 23)
  have RM0 : Hid (RowAt 44 w.heap.size (mC m) (((w.alloc (.cells (mC m) 44)).alloc (.cells #[.int .i64 v0, .int .i64 v1, .int .i64 v2, .int .i64 v3] 23)).alloc (.cells #[.int .i64 0, .int .i64 0, .int .i64 0, .int .i64 0] 23))) := Lib.hid h3.1
  have RV0 : Hid (RowAt 23 (w.heap.size + 1) #[.int .i64 v0, .int .i64 v1, .int .i64 v2, .int .i64 v3] (((w.alloc (.cells (mC m) 44)).alloc (.cells #[.int .i64 v0, .int .i64 v1, .int .i64 v2, .int .i64 v3] 23)).alloc (.cells #[.int .i64 0, .int .i64 0, .int .i64 0, .int .i64 0] 23))) := Lib.hid h3.2.1
  have RR0 : Hid (RowAt 23 (w.heap.size + 1 + 1) #[.int .i64 0, .int .i64 0, .int .i64 0, .int .i64 0] (((w.alloc (.cells (mC m) 44)).alloc (.cells #[.int .i64 v0, .int .i64 v1, .int .i64 v2, .int .i64 v3] 23)).alloc (.cells #[.int .i64 0, .int .i64 0, .int .i64 0, .int .i64 0] 23))) := Lib.hid h3.2.2
  have HB0 : Hid (Below w.heap.size w (((w.alloc (.cells (mC m) 44)).alloc (.cells #[.int .i64 v0, .int .i64 v1, .int .i64 v2, .int .i64 v3] 23)).alloc (.cells #[.int .i64 0, .int .i64 0, .int .i64 0, .int .i64 0] 23))) := Lib.hid (by go_grown)
  have CW1 : Hid (Ans 49 #[.agg (mC m), .int .i64 4611686018427387904] (.bool (wB 4611686018427387904 m 16))) := Lib.hid fun w => zwithin_any m 4611686018427387904 w hm (by omega) (by omega)
  have CW2 : Hid (Ans 49 #[.agg (mC [v0, v1, v2, v3, 0, 0, 0, 0, 0, 0, 0, 0, 0, 0, 0, 0]), .int .i64 4611686018427387904] (.bool (wB 4611686018427387904 [v0, v1, v2, v3] 4))) := Lib.hid fun w => by rw [← wB_pad]; exact zwithin_any [v0, v1, v2, v3, 0, 0, 0, 0, 0, 0, 0, 0, 0, 0, 0, 0] 4611686018427387904 w rfl (by omega) (by omega)
  obtain ⟨b1, h1⟩ : ∃ b, wB 4611686018427387904 m 16 = b := ⟨_, rfl⟩
  obtain ⟨b2, h2⟩ : ∃ b, wB 4611686018427387904 [v0, v1, v2, v3] 4 = b := ⟨_, rfl⟩
  rw [h1] at CW1
  rw [h2] at CW2
  have H1 := Lib.hid h1
  have H2 := Lib.hid h2
  have BM := Lib.hid bm
  have BV := Lib.hid bv0
  clear hm hinf h3 h1 h2 bm bv0
  go_enter Try.func37, Try.ntmps37
  go_wp2_with (refine wpList_load_row rfl 44 (.tmp 2) rfl (w.heap.size) rfl _ _ _ _ RM0.out Try.underlying44 rfl HINF.out ?_)
  generalize (((w.alloc (.cells (mC m) 44)).alloc (.cells #[.int .i64 v0, .int .i64 v1, .int .i64 v2, .int .i64 v3] 23)).alloc (.cells #[.int .i64 0, .int .i64 0, .int .i64 0, .int .i64 0] 23)) = V at RM0 RV0 RR0 HB0 ⊢
  refine (CW1.out _).mono ?_
  rintro e w1 ⟨rfl, hb1⟩
  have RM1 : Hid (RowAt 44 w.heap.size (mC m) w1) := Lib.hid (RM0.out.below hb1)
  have RV1 : Hid (RowAt 23 (w.heap.size + 1) #[.int .i64 v0, .int .i64 v1, .int .i64 v2, .int .i64 v3] w1) := Lib.hid (RV0.out.below hb1)
  have RR1 : Hid (RowAt 23 (w.heap.size + 1 + 1) #[.int .i64 0, .int .i64 0, .int .i64 0, .int .i64 0] w1) := Lib.hid (RR0.out.below hb1)
  have HB1 : Hid (Below w.heap.size w w1) := Lib.hid (bnext HB0.out hb1)
  clear RM0 RV0 RR0 HB0 hb1
  go_wp2_with (first | (refine wpList_load_row rfl 23 (.tmp 3) rfl (w.heap.size + 1) rfl _ _ _ _ RV1.out Try.underlying23 rfl (by kernel_rfl) ?_) | (refine wpList_build_to rfl 44 #[(0, .tmp 14)] rfl (mC [v0, v1, v2, v3, 0, 0, 0, 0, 0, 0, 0, 0, 0, 0, 0, 0]) (by kernel_rfl) ?_))
  refine (CW2.out _).mono ?_
  rintro e w2 ⟨rfl, hb2⟩
  have RM2 : Hid (RowAt 44 w.heap.size (mC m) w2) := Lib.hid (RM1.out.below hb2)
  have RV2 : Hid (RowAt 23 (w.heap.size + 1) #[.int .i64 v0, .int .i64 v1, .int .i64 v2, .int .i64 v3] w2) := Lib.hid (RV1.out.below hb2)
  have RR2 : Hid (RowAt 23 (w.heap.size + 1 + 1) #[.int .i64 0, .int .i64 0, .int .i64 0, .int .i64 0] w2) := Lib.hid (RR1.out.below hb2)
  have HB2 : Hid (Below w.heap.size w w2) := Lib.hid (bnext HB1.out hb2)
  have hz2 : w.heap.size + 1 + 1 < w2.heap.size := RR2.out.lt
  clear RM1 RV1 RR1 HB1 hb2 CW1 CW2
  cases b1 with
  | false =>
    have HNO : Hid (apO m [v0, v1, v2, v3] = none) := Lib.hid (ap_no1 H1.out)
    have z0 := RowAt.cell (j := 0) RR2.out
    have z1 := RowAt.cell (j := 1) RR2.out
    have z2 := RowAt.cell (j := 2) RR2.out
    have z3 := RowAt.cell (j := 3) RR2.out
    have y0 := RowAt.free (j := 0) RR2.out
    have y1 := RowAt.free (j := 1) RR2.out
    have y2 := RowAt.free (j := 2) RR2.out
    have y3 := RowAt.free (j := 3) RR2.out
    simp only [List.getElem?_toArray, List.getElem?_cons_zero, List.getElem?_cons_succ] at z0 z1 z2 z3
    go_wp2_with fail
    (try simp only [Exit.inBlock, Exit.then])
    exact bodyPost_ret (v := .tuple #[.agg #[.int .i64 0, .int .i64 0, .int .i64 0, .int .i64 0], .int .i64 30]) (results_row_tmp rfl _ _ (w.heap.size + 1 + 1) _ #[.int .i64 0, .int .i64 0, .int .i64 0, .int .i64 0] _ _ (.int .i64 30) rfl (RR2.out.put4 _ _ _ _) Try.underlying23 rfl (by kernel_rfl) rfl) rfl ⟨by rw [HNO.out]; rfl, Below.put4 HB2.out (by omega) _ _ _ _⟩
  | true =>
    cases b2 with
    | false =>
      have HNO : Hid (apO m [v0, v1, v2, v3] = none) := Lib.hid (ap_no2 H2.out)
      have z0 := RowAt.cell (j := 0) RR2.out
      have z1 := RowAt.cell (j := 1) RR2.out
      have z2 := RowAt.cell (j := 2) RR2.out
      have z3 := RowAt.cell (j := 3) RR2.out
      have y0 := RowAt.free (j := 0) RR2.out
      have y1 := RowAt.free (j := 1) RR2.out
      have y2 := RowAt.free (j := 2) RR2.out
      have y3 := RowAt.free (j := 3) RR2.out
      simp only [List.getElem?_toArray, List.getElem?_cons_zero, List.getElem?_cons_succ] at z0 z1 z2 z3
      go_wp2_with fail
      (try simp only [Exit.inBlock, Exit.then])
      exact bodyPost_ret (v := .tuple #[.agg #[.int .i64 0, .int .i64 0, .int .i64 0, .int .i64 0], .int .i64 30]) (results_row_tmp rfl _ _ (w.heap.size + 1 + 1) _ #[.int .i64 0, .int .i64 0, .int .i64 0, .int .i64 0] _ _ (.int .i64 30) rfl (RR2.out.put4 _ _ _ _) Try.underlying23 rfl (by kernel_rfl) rfl) rfl ⟨by rw [HNO.out]; rfl, Below.put4 HB2.out (by omega) _ _ _ _⟩
    | true =>
      have hz2' : w.heap.size + 1 + 1 < (w2.alloc (.cells #[.int .i64 0, .int .i64 0, .int .i64 0, .int .i64 0] 23)).heap.size := by simp; omega
      have AI0 : Hid (AI m v0 v1 v2 v3 0 w2.heap.size w (w2.alloc (.cells #[.int .i64 0, .int .i64 0, .int .i64 0, .int .i64 0] 23))) := Lib.hid ⟨RM2.out.alloc _, RV2.out.alloc _, RR2.out.alloc _, heap_alloc_new _ _, hz2, HB2.out.alloc HB2.out.size _⟩
      go_wp2_with fail
      generalize (w2.alloc (.cells #[.int .i64 0, .int .i64 0, .int .i64 0, .int .i64 0] 23)) = V2 at AI0 ⊢
      generalize w2.heap.size = B at AI0 ⊢
      clear RM2 RV2 RR2 HB2 hz2 hz2'
      go_loopg [9] 4 (ZpRel m v0 v1 v2 v3 B w)
      case atStart => exact ⟨0, rfl, rfl, by omega, fun j hj => absurd hj (by omega), AI0.out⟩
      case round =>
        clear AI0
        obtain ⟨r, hg, rfl, hr4, hok, I⟩ := hrel
        have HI := Lib.hid I
        have HOK := Lib.hid hok
        clear I hok
        subst hg
        by_cases hr : r < 4
        · have r1 : (r : Int) < 4 := by omega
          obtain ⟨q, hq⟩ : ∃ q, pq (rowOf m r) [v0, v1, v2, v3] = q := ⟨_, rfl⟩
          have HNX : Hid (∀ W, AI m v0 v1 v2 v3 r B w W → AI m v0 v1 v2 v3 (r + 1) B w (W.setCell ⟨B, r, none⟩ (.int .i64 q))) := Lib.hid (fun W h => by have := h.next hr; rw [hq] at this; exact this)
          have cS : Hid (Ans 50 #[.agg #[.int .i64 (m.getD (r * 4) 0), .int .i64 (m.getD (r * 4 + 1) 0), .int .i64 (m.getD (r * 4 + 2) 0), .int .i64 (m.getD (r * 4 + 3) 0)], .agg #[.int .i64 v0, .int .i64 v1, .int .i64 v2, .int .i64 v3]] (.tuple #[.int .i64 (suV q), .bool (okB 4611686018427387904 q)])) := Lib.hid fun w => by
            have := zsum_any (rowOf m r) [v0, v1, v2, v3] w rfl rfl (bound_row BM.out r) BV.out
            rw [hq] at this
            exact this
          have hc0 : Hid (∀ W, RowAt 44 w.heap.size (mC m) W → W.cell? ⟨w.heap.size, r * 4, none⟩ = some (.int .i64 (m.getD (r * 4) 0)) ∧ W.cell? ⟨w.heap.size, r * 4 + 1, none⟩ = some (.int .i64 (m.getD (r * 4 + 1) 0)) ∧ W.cell? ⟨w.heap.size, r * 4 + 2, none⟩ = some (.int .i64 (m.getD (r * 4 + 2) 0)) ∧ W.cell? ⟨w.heap.size, r * 4 + 3, none⟩ = some (.int .i64 (m.getD (r * 4 + 3) 0))) := Lib.hid (fun W h => ⟨by rw [h.cell, mC_cell (by rw [HM.out]; omega)], by rw [h.cell, mC_cell (by rw [HM.out]; omega)], by rw [h.cell, mC_cell (by rw [HM.out]; omega)], by rw [h.cell, mC_cell (by rw [HM.out]; omega)]⟩)
          have HQ := Lib.hid hq
          generalize m.getD (r * 4) 0 = a0 at cS hc0
          generalize m.getD (r * 4 + 1) 0 = a1 at cS hc0
          generalize m.getD (r * 4 + 2) 0 = a2 at cS hc0
          generalize m.getD (r * 4 + 3) 0 = a3 at cS hc0
          obtain ⟨bq, hbq⟩ : ∃ b, okB 4611686018427387904 q = b := ⟨_, rfl⟩
          obtain ⟨n, hn⟩ : ∃ n, suV q = n := ⟨_, rfl⟩
          rw [hbq, hn] at cS
          have HBQ := Lib.hid hbq
          have hnq : bq = true → n = q := fun h => by rw [← hn]; unfold suV; rw [hbq, h]; rfl
          have HNQ := Lib.hid hnq
          clear hq hbq hn hnq
          go_wp2_with fail
          rename_i K9 hK9
          refine (wpIn_wide (n := 5)).1 (give_region (S := fun X => Below wr.heap.size wr X) (Z := []) (by kernel_rfl) (by kernel_rfl) below_mono (fun d _ _ _ _ h => by cases d <;> exact h) (bdrew0 _ _ 1) (fun hG vw0 hw0 => ?_))
          refine grow_pure [] 0 (?_) hG rfl (by kernel_rfl) hw0 (by kernel_rfl) ?_ ?_
          rotate_left
          · intro wz hSw; (first | (go_simp; done) | (go_simp; with_reducible rfl))
          intro vw1 hw1 hbn
          clear hbn hw0 vw0
          (try simp only [Act.put, List.getElem_toArray, List.getElem_cons_zero, List.getElem_cons_succ, List.setIfInBounds_toArray, List.set_cons_zero, List.set_cons_succ])
          refine grow_pure [] 1 (.pointer (some ⟨w.heap.size, r * 4, none⟩)) hG rfl (by kernel_rfl) hw1 (by kernel_rfl) ?_ ?_
          · intro wz hSw; (first | (go_simp; done) | (go_simp; with_reducible rfl))
          intro vw2 hw2 hbn
          clear hbn hw1 vw1
          (try simp only [Act.put, List.getElem_toArray, List.getElem_cons_zero, List.getElem_cons_succ, List.setIfInBounds_toArray, List.set_cons_zero, List.set_cons_succ])
          refine grow_pure [] 2 (.agg #[.int .i64 a0, .int .i64 a1, .int .i64 a2, .int .i64 a3]) hG rfl (by kernel_rfl) hw2 (by kernel_rfl) ?_ ?_
          · intro wz hSw; obtain ⟨c0, c1, c2, c3⟩ := hc0.out wz (RowAt.below hSw HI.out.bm); (first | (go_simp; done) | (go_simp; with_reducible rfl))
          intro vw3 hw3 hbn
          clear hbn hw2 vw2
          (try simp only [Act.put, List.getElem_toArray, List.getElem_cons_zero, List.getElem_cons_succ, List.setIfInBounds_toArray, List.set_cons_zero, List.set_cons_succ])
          refine grow_pure [] 3 (.agg #[.int .i64 v0, .int .i64 v1, .int .i64 v2, .int .i64 v3]) hG rfl (by kernel_rfl) hw3 (by kernel_rfl) ?_ ?_
          · intro wz hSw; exact exec_load_row 23 (.tmp 3) (by kernel_rfl) (w.heap.size + 1) (by kernel_rfl) _ _ _ _ (RowAt.below hSw HI.out.bv) Try.underlying23 (by kernel_rfl) (by kernel_rfl)
          intro vw4 hw4 hbn
          clear hbn hw3 vw3
          (try simp only [Act.put, List.getElem_toArray, List.getElem_cons_zero, List.getElem_cons_succ, List.setIfInBounds_toArray, List.set_cons_zero, List.set_cons_succ])
          refine grow_call [] 4 50 #[.agg #[.int .i64 a0, .int .i64 a1, .int .i64 a2, .int .i64 a3], .agg #[.int .i64 v0, .int .i64 v1, .int .i64 v2, .int .i64 v3]] (.tuple #[.int .i64 n, .bool bq]) hG rfl (by kernel_rfl) hw4 (by kernel_rfl) ?_ (cS.out) ?_
          · intro wz; (first | (go_simp; done) | (go_simp; with_reducible rfl))
          intro vw5 hw5 hbn
          clear hbn hw4 vw4
          (try simp only [Act.put, List.getElem_toArray, List.getElem_cons_zero, List.getElem_cons_succ, List.setIfInBounds_toArray, List.set_cons_zero, List.set_cons_succ])
          refine grow_pure [] 5 (?_) hG rfl (by kernel_rfl) hw5 (by kernel_rfl) ?_ ?_
          rotate_left
          · intro wz hSw; (first | (go_simp; done) | (go_simp; with_reducible rfl))
          intro vw6 hw6 hbn
          clear hbn hw5 vw5
          (try simp only [Act.put, List.getElem_toArray, List.getElem_cons_zero, List.getElem_cons_succ, List.setIfInBounds_toArray, List.set_cons_zero, List.set_cons_succ])
          refine grow_pure [] 6 (?_) hG rfl (by kernel_rfl) hw6 (by kernel_rfl) ?_ ?_
          rotate_left
          · intro wz hSw; (first | (go_simp; done) | (go_simp; with_reducible rfl))
          intro vw7 hw7 hbn
          clear hbn hw6 vw6
          (try simp only [Act.put, List.getElem_toArray, List.getElem_cons_zero, List.getElem_cons_succ, List.setIfInBounds_toArray, List.set_cons_zero, List.set_cons_succ])
          refine grow_pure [] 7 (?_) hG rfl (by kernel_rfl) hw7 (by kernel_rfl) ?_ ?_
          rotate_left
          · intro wz hSw; (first | (go_simp; done) | (go_simp; with_reducible rfl))
          intro vw8 hw8 hbn
          clear hbn hw7 vw7
          (try simp only [Act.put, List.getElem_toArray, List.getElem_cons_zero, List.getElem_cons_succ, List.setIfInBounds_toArray, List.set_cons_zero, List.set_cons_succ])
          refine grow_pure [] 8 (?_) hG rfl (by kernel_rfl) hw8 (by kernel_rfl) ?_ ?_
          rotate_left
          · intro wz hSw; (first | (go_simp; done) | (go_simp; with_reducible rfl))
          intro vw9 hw9 hbn
          clear hbn hw8 vw8
          (try simp only [Act.put, List.getElem_toArray, List.getElem_cons_zero, List.getElem_cons_succ, List.setIfInBounds_toArray, List.set_cons_zero, List.set_cons_succ])
          refine grow_pure [] 9 (?_) hG rfl (by kernel_rfl) hw9 (by kernel_rfl) ?_ ?_
          rotate_left
          · intro wz hSw; (first | (go_simp; done) | (go_simp; with_reducible rfl))
          intro vw10 hw10 hbn
          clear hbn hw9 vw9
          (try simp only [Act.put, List.getElem_toArray, List.getElem_cons_zero, List.getElem_cons_succ, List.setIfInBounds_toArray, List.set_cons_zero, List.set_cons_succ])
          refine give_done (by kernel_rfl) (?_) _
          refine hK9 _ _ ?_
          have I1 := Lib.hid (HI.out.up hw10)
          clear hK9 hG HI cS hc0 hw10
          cases bq with
          | false =>
            have HNO : Hid (apO m [v0, v1, v2, v3] = none) := Lib.hid (ap_bad hr (by rw [HQ.out]; exact HBQ.out))
            have z0 := RowAt.cell (j := 0) (show RowAt 23 (w.heap.size + 1 + 1) #[.int .i64 0, .int .i64 0, .int .i64 0, .int .i64 0] _ from I1.out.br)
            have z1 := RowAt.cell (j := 1) (show RowAt 23 (w.heap.size + 1 + 1) #[.int .i64 0, .int .i64 0, .int .i64 0, .int .i64 0] _ from I1.out.br)
            have z2 := RowAt.cell (j := 2) (show RowAt 23 (w.heap.size + 1 + 1) #[.int .i64 0, .int .i64 0, .int .i64 0, .int .i64 0] _ from I1.out.br)
            have z3 := RowAt.cell (j := 3) (show RowAt 23 (w.heap.size + 1 + 1) #[.int .i64 0, .int .i64 0, .int .i64 0, .int .i64 0] _ from I1.out.br)
            have y0 := RowAt.free (j := 0) (show RowAt 23 (w.heap.size + 1 + 1) #[.int .i64 0, .int .i64 0, .int .i64 0, .int .i64 0] _ from I1.out.br)
            have y1 := RowAt.free (j := 1) (show RowAt 23 (w.heap.size + 1 + 1) #[.int .i64 0, .int .i64 0, .int .i64 0, .int .i64 0] _ from I1.out.br)
            have y2 := RowAt.free (j := 2) (show RowAt 23 (w.heap.size + 1 + 1) #[.int .i64 0, .int .i64 0, .int .i64 0, .int .i64 0] _ from I1.out.br)
            have y3 := RowAt.free (j := 3) (show RowAt 23 (w.heap.size + 1 + 1) #[.int .i64 0, .int .i64 0, .int .i64 0, .int .i64 0] _ from I1.out.br)
            simp only [List.getElem?_toArray, List.getElem?_cons_zero, List.getElem?_cons_succ] at z0 z1 z2 z3
            go_wp2_with fail
            (try simp only [Exit.inBlock, Exit.then])
            exact bodyPost_ret (v := .tuple #[.agg #[.int .i64 0, .int .i64 0, .int .i64 0, .int .i64 0], .int .i64 30]) (results_row_tmp rfl _ _ (w.heap.size + 1 + 1) _ #[.int .i64 0, .int .i64 0, .int .i64 0, .int .i64 0] _ _ (.int .i64 30) rfl (RowAt.put4 (show RowAt 23 (w.heap.size + 1 + 1) #[.int .i64 0, .int .i64 0, .int .i64 0, .int .i64 0] _ from I1.out.br) _ _ _ _) Try.underlying23 rfl (by kernel_rfl) rfl) rfl ⟨by rw [HNO.out]; rfl, Below.put4 I1.out.below (by omega) _ _ _ _⟩
          | true =>
            obtain rfl := HNQ.out rfl
            have cb : vw10.cell? ⟨B, r, none⟩ = some (.int .i64 ((apL m [v0, v1, v2, v3] r).getD r 0)) := by rw [cell_of_row _ _ _ _ _ _ I1.out.ba, mC_at _ _ (by rw [apL_len]; exact hr)]
            have fb : vw10.frozen? ⟨B, r, none⟩ = false := frozen_row I1.out.ba
            have I2 := Lib.hid (HNX.out _ I1.out)
            clear I1 HNX
            go_wp2_with fail
            go_roundg (4 - (r + 1))
            case measure => omega
            case rel =>
              refine ⟨r + 1, rfl, by go_num, by omega, fun j hj => ?_, I2.out⟩
              by_cases hjr : j < r
              · exact HOK.out j hjr
              · rw [show j = r by omega, HQ.out]; exact HBQ.out
        · obtain rfl : r = 4 := by omega
          have r1 : ¬ ((4 : Nat) : Int) < 4 := by omega
          have HYES : Hid (apO m [v0, v1, v2, v3] = some (apRows m [v0, v1, v2, v3])) := Lib.hid (ap_good H1.out H2.out HOK.out)
          have RB : Hid (RowAt 23 B (mC (apRows m [v0, v1, v2, v3])) wr) := Lib.hid (by have := HI.out.ba; rw [apL_end] at this; exact this)
          have RR : Hid (RowAt 23 (w.heap.size + 1 + 1) #[.int .i64 0, .int .i64 0, .int .i64 0, .int .i64 0] wr) := Lib.hid HI.out.br
          have HE : Hid (Below w.heap.size w (wr.setRow (w.heap.size + 1 + 1) (mC (apRows m [v0, v1, v2, v3])))) := Lib.hid (Below.row HI.out.below (by omega) _)
          clear HI
          go_wp2_with (first | (refine wpList_load_row rfl 23 (.tmp 8) rfl (B) rfl _ _ _ _ RB.out Try.underlying23 rfl (by kernel_rfl) ?_) | (refine wpList_store_big rfl 23 (.tmp 4) (.tmp 43) rfl (w.heap.size + 1 + 1) _ _ (mC (apRows m [v0, v1, v2, v3])) rfl rfl RR.out (by kernel_rfl) rfl (mC_one _) ?_))
          exact bodyPost_ret (v := .tuple #[.agg (mC (apRows m [v0, v1, v2, v3])), .int .i64 0]) (results_row_tmp rfl _ _ (w.heap.size + 1 + 1) _ (mC (apRows m [v0, v1, v2, v3])) _ _ (.int .i64 0) rfl (RR.out.row _) Try.underlying23 rfl (by kernel_rfl) rfl) rfl ⟨by rw [HYES.out]; rfl, HE.out⟩
theorem zapply_any (m v : List Int) (w : World) (hm : m.length = 16) (hv : v.length = 4) (bm : ∀ j, -9223372036854775808 ≤ m.getD j 0 ∧ m.getD j 0 ≤ 9223372036854775807) (bv0 : ∀ j, -9223372036854775808 ≤ v.getD j 0 ∧ v.getD j 0 ≤ 9223372036854775807) :
    Calls Try.prog 37 #[.agg (mC m), .agg (mC v)] w (RetV (apO m v) w) := by
  have e := list4 hv
  rw [e] at bv0 ⊢
  exact zapply4 m _ _ _ _ w hm bm bv0
end Go.Proofs.Ytgkglkoipocgaaa.Fx
set_option linter.unusedVariables false
set_option linter.unusedSimpArgs false
namespace Go.Proofs.Ytgkglkoipocgaaa.Fx
open Go Go.RowKit Wm
def colX (a b : List Int) (c r : Nat) : Int := ((colO a b c).getD []).getD r 0
def outL (a b : List Int) (c r : Nat) : List Int := (List.range 16).map fun p => if p % 4 < c ∨ (p % 4 = c ∧ p / 4 < r) then colX a b (p % 4) (p / 4) else 0
theorem outL_len (a b : List Int) (c r : Nat) : (outL a b c r).length = 16 := by simp [outL]
theorem outL_zero (a b : List Int) : outL a b 0 0 = zero16 := rfl
theorem outL_col (a b : List Int) (c : Nat) (hc : c < 4) : outL a b c 4 = outL a b (c + 1) 0 := by
  have hd : c = 0 ∨ c = 1 ∨ c = 2 ∨ c = 3 := by omega
  rcases hd with rfl | rfl | rfl | rfl <;> rfl
theorem outL_end (a b : List Int) : outL a b 4 0 = tr (csA a b) := rfl
theorem outL_step (a b : List Int) (c r : Nat) (hc : c < 4) (hr : r < 4) : (outL a b c r).set (r * 4 + c) (colX a b c r) = outL a b c (r + 1) := by
  have hd : c = 0 ∨ c = 1 ∨ c = 2 ∨ c = 3 := by omega
  have he : r = 0 ∨ r = 1 ∨ r = 2 ∨ r = 3 := by omega
  rcases hd with rfl | rfl | rfl | rfl <;> rcases he with rfl | rfl | rfl | rfl <;> rfl
theorem col_row (b : List Int) (c : Nat) (hc : c < 4) : rowOf (tr b) c = [b.getD c 0, b.getD (4 + c) 0, b.getD (8 + c) 0, b.getD (12 + c) 0] := by
  have hd : c = 0 ∨ c = 1 ∨ c = 2 ∨ c = 3 := by omega
  rcases hd with rfl | rfl | rfl | rfl <;> rfl
structure MzI (a b : List Int) (B c r : Nat) (w W : World) : Prop where
  ra : RowAt 44 w.heap.size (mC a) W
  rb : RowAt 44 (w.heap.size + 1) (mC b) W
  rr : RowAt 44 (w.heap.size + 1 + 1) (mC zero16) W
  ro : RowAt 44 B (mC (outL a b c r)) W
  below : Below w.heap.size w W
  lt : w.heap.size + 1 + 1 < B
theorem MzI.up {a b : List Int} {B c r : Nat} {w W V : World} (i : MzI a b B c r w W) (hb : Below W.heap.size W V) : MzI a b B c r w V := ⟨i.ra.below hb, i.rb.below hb, i.rr.below hb, i.ro.below hb, bnext i.below hb, i.lt⟩
theorem RowAt.otherC {t : TypeId} {g k j : Nat} {cs : Array Value} {W : World} (h : RowAt t g cs W) (hk : g ≠ k) (v : Value) : RowAt t g cs (W.setCell ⟨k, j, none⟩ v) := by unfold RowAt; rw [heap_setCell_other _ _ _ _ (by show g ≠ k; exact hk)]; exact h
theorem MzI.next {a b : List Int} {B c r : Nat} {w W : World} (i : MzI a b B c r w W) (hc : c < 4) (hr : r < 4) : MzI a b B c (r + 1) w (W.setCell ⟨B, r * 4 + c, none⟩ (.int .i64 (colX a b c r))) := by
  have hB := i.lt
  refine ⟨i.ra.otherC (by omega) _, i.rb.otherC (by omega) _, i.rr.otherC (by omega) _, ?_, i.below.setCell (p := ⟨B, r * 4 + c, none⟩) (by show _ ≤ B; omega) _, hB⟩
  have := heap_setCell_same _ _ (r * 4 + c) _ _ (.int .i64 (colX a b c r)) i.ro
  unfold RowAt
  rw [this, mC_put, outL_step _ _ _ _ hc hr]
def MzRel (a b : List Int) (B : Nat) (w : World) (g : Nat) (s : Value) (W : World) : Prop :=
  ∃ c, g = 4 - c ∧ s = .int .i64 (c : Int) ∧ c ≤ 4 ∧ (∀ j, j < c → (colO a b j).isSome = true) ∧ MzI a b B c 0 w W
def MyRel (a b : List Int) (B c bC : Nat) (u : List Int) (w : World) (g : Nat) (s : Value) (W : World) : Prop :=
  ∃ r, g = 4 - r ∧ s = .int .i64 (r : Int) ∧ r ≤ 4 ∧ MzI a b B c r w W ∧ RowAt 23 bC (mC u) W
theorem colO_len {a b : List Int} {c : Nat} {u : List Int} (h : colO a b c = some u) : u.length = 4 := by
  unfold colO apO at h
  split at h
  · cases h; rfl
  · cases h
theorem mul_all {a b : List Int} (h : ∀ j, j < 4 → (colO a b j).isSome = true) : mulO a b = some (tr (csA a b)) := by
  unfold mulO
  rw [if_pos ⟨h 0 (by omega), h 1 (by omega), h 2 (by omega), h 3 (by omega)⟩]
end Go.Proofs.Ytgkglkoipocgaaa.Fx
