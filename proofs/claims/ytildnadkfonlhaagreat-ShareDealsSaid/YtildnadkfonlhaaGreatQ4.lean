/- The document's Apply, walked. 
  The document's product of matrices, walked. -/
import Derived.Test.YtildnadkfonlhaaGreatProg
import Derived.Test.YtildnadkfonlhaaGreatQ2
set_option linter.unusedVariables false
set_option linter.unusedSimpArgs false
namespace Go.Proofs.YtildnadkfonlhaaGreat.Fx
open Go Go.RowKit Wm
theorem wB_pad (b v0 v1 v2 v3 : Int) : wB b [v0, v1, v2, v3, 0, 0, 0, 0, 0, 0, 0, 0, 0, 0, 0, 0] 16 = wB b [v0, v1, v2, v3] 4 := by
  rw [Bool.eq_iff_iff, wB_iff, wB_iff]
  constructor
  · intro h j hj
    have := h j (by omega)
    have hd : j = 0 ∨ j = 1 ∨ j = 2 ∨ j = 3 := by omega
    rcases hd with rfl | rfl | rfl | rfl <;> exact this
  · intro h j hj
    have h0 : 0 ≤ b := (h 0 (by omega)).1
    by_cases h4 : j < 4
    · have := h j h4
      have hd : j = 0 ∨ j = 1 ∨ j = 2 ∨ j = 3 := by omega
      rcases hd with rfl | rfl | rfl | rfl <;> exact this
    · have e : [v0, v1, v2, v3, 0, 0, 0, 0, 0, 0, 0, 0, 0, 0, 0, 0].getD j 0 = 0 := by
        have hd : j = 4 ∨ j = 5 ∨ j = 6 ∨ j = 7 ∨ j = 8 ∨ j = 9 ∨ j = 10 ∨ j = 11 ∨ j = 12 ∨ j = 13 ∨ j = 14 ∨ j = 15 := by omega
        rcases hd with rfl | rfl | rfl | rfl | rfl | rfl | rfl | rfl | rfl | rfl | rfl | rfl <;> rfl
      rw [e]
      omega
theorem ap_bad {m v : List Int} {j : Nat} (hj : j < 4) (h : okB 4611686018427387904 (pq (rowOf m j) v) = false) : apO m v = none := by
  unfold apO
  rw [if_neg]
  rintro ⟨_, _, h3⟩
  have h4 := wB_iff.1 h3 j hj
  have e : (apRows m v).getD j 0 = pq (rowOf m j) v := by
    have hd : j = 0 ∨ j = 1 ∨ j = 2 ∨ j = 3 := by omega
    rcases hd with rfl | rfl | rfl | rfl <;> rfl
  rw [e] at h4
  unfold okB at h
  have := of_decide_eq_false h
  exact this h4
theorem ap_good {m v : List Int} (h1 : wB 4611686018427387904 m 16 = true) (h2 : wB 4611686018427387904 v 4 = true) (h : ∀ j, j < 4 → okB 4611686018427387904 (pq (rowOf m j) v) = true) : apO m v = some (apRows m v) := by
  unfold apO
  rw [if_pos]
  refine ⟨h1, h2, wB_iff.2 fun j hj => ?_⟩
  have h4 := h j hj
  have e : (apRows m v).getD j 0 = pq (rowOf m j) v := by
    have hd : j = 0 ∨ j = 1 ∨ j = 2 ∨ j = 3 := by omega
    rcases hd with rfl | rfl | rfl | rfl <;> rfl
  rw [e]
  unfold okB at h4
  exact of_decide_eq_true h4
theorem ap_no1 {m v : List Int} (h : wB 4611686018427387904 m 16 = false) : apO m v = none := by
  unfold apO
  rw [if_neg]
  rintro ⟨h1, _⟩
  rw [h] at h1
  cases h1
theorem ap_no2 {m v : List Int} (h : wB 4611686018427387904 v 4 = false) : apO m v = none := by
  unfold apO
  rw [if_neg]
  rintro ⟨_, h1, _⟩
  rw [h] at h1
  cases h1
def ZpRel (m : List Int) (v0 v1 v2 v3 : Int) (B : Nat) (w : World) (g : Nat) (s : Value) (W : World) : Prop :=
  ∃ r, g = 4 - r ∧ s = .int .i64 (r : Int) ∧ r ≤ 4 ∧ (∀ j, j < r → okB 4611686018427387904 (pq (rowOf m j) [v0, v1, v2, v3]) = true) ∧ AI m v0 v1 v2 v3 r B w W
theorem RowAt.put4 {t : TypeId} {g : Nat} {x0 x1 x2 x3 : Value} {W : World} (h : RowAt t g #[x0, x1, x2, x3] W) (y0 y1 y2 y3 : Value) : RowAt t g #[y0, y1, y2, y3] ((((W.setCell ⟨g, 0, none⟩ y0).setCell ⟨g, 1, none⟩ y1).setCell ⟨g, 2, none⟩ y2).setCell ⟨g, 3, none⟩ y3) := by
  have h1 := heap_setCell_same W _ 0 _ _ y0 h
  have h2 := heap_setCell_same _ _ 1 _ _ y1 h1
  have h3 := heap_setCell_same _ _ 2 _ _ y2 h2
  exact heap_setCell_same _ _ 3 _ _ y3 h3
theorem Below.put4 {w W : World} {g : Nat} (h : Below w.heap.size w W) (hg : w.heap.size ≤ g) (y0 y1 y2 y3 : Value) : Below w.heap.size w ((((W.setCell ⟨g, 0, none⟩ y0).setCell ⟨g, 1, none⟩ y1).setCell ⟨g, 2, none⟩ y2).setCell ⟨g, 3, none⟩ y3) :=
  (((h.setCell (p := ⟨g, 0, none⟩) hg _).setCell (p := ⟨g, 1, none⟩) hg _).setCell (p := ⟨g, 2, none⟩) hg _).setCell (p := ⟨g, 3, none⟩) hg _
theorem size4 : (Tryz.prog.info? 23).map (·.size) = some 4 := by kernel_rfl
theorem bound_row {m : List Int} (h : ∀ j, -9223372036854775808 ≤ m.getD j 0 ∧ m.getD j 0 ≤ 9223372036854775807) (r : Nat) : ∀ j, -9223372036854775808 ≤ (rowOf m r).getD j 0 ∧ (rowOf m r).getD j 0 ≤ 9223372036854775807 := by
  intro j
  unfold rowOf
  match j with
  | 0 => exact h _
  | 1 => exact h _
  | 2 => exact h _
  | 3 => exact h _
  | j + 4 => simp
set_option maxRecDepth 100000 in
set_option maxHeartbeats 8000000 in
theorem zapply4 (m : List Int) (v0 v1 v2 v3 : Int) (w : World) (hm : m.length = 16) (bm : ∀ j, -9223372036854775808 ≤ m.getD j 0 ∧ m.getD j 0 ≤ 9223372036854775807) (bv0 : ∀ j, -9223372036854775808 ≤ [v0, v1, v2, v3].getD j 0 ∧ [v0, v1, v2, v3].getD j 0 ≤ 9223372036854775807) :
    Calls Tryz.prog 42 #[.agg (mC m), .agg #[.int .i64 v0, .int .i64 v1, .int .i64 v2, .int .i64 v3]] w (RetV (apO m [v0, v1, v2, v3]) w) := by
  have HM := Lib.hid hm
  have hinf : (Tryz.prog.info? 25).map (·.size) = some (mC m).size := by rw [size16, mC_size, hm]
  have HINF := Lib.hid hinf
  have h3 := block3s w (.cells (mC m) 25) (.cells #[.int .i64 v0, .int .i64 v1, .int .i64 v2, .int .i64 v3] 23) (.cells #[.int .i64 0, .int .i64 0, .int .i64 0, .int .i64 0] 23)
  have RM0 : Hid (RowAt 25 w.heap.size (mC m) (((w.alloc (.cells (mC m) 25)).alloc (.cells #[.int .i64 v0, .int .i64 v1, .int .i64 v2, .int .i64 v3] 23)).alloc (.cells #[.int .i64 0, .int .i64 0, .int .i64 0, .int .i64 0] 23))) := Lib.hid h3.1
  have RV0 : Hid (RowAt 23 (w.heap.size + 1) #[.int .i64 v0, .int .i64 v1, .int .i64 v2, .int .i64 v3] (((w.alloc (.cells (mC m) 25)).alloc (.cells #[.int .i64 v0, .int .i64 v1, .int .i64 v2, .int .i64 v3] 23)).alloc (.cells #[.int .i64 0, .int .i64 0, .int .i64 0, .int .i64 0] 23))) := Lib.hid h3.2.1
  have RR0 : Hid (RowAt 23 (w.heap.size + 1 + 1) #[.int .i64 0, .int .i64 0, .int .i64 0, .int .i64 0] (((w.alloc (.cells (mC m) 25)).alloc (.cells #[.int .i64 v0, .int .i64 v1, .int .i64 v2, .int .i64 v3] 23)).alloc (.cells #[.int .i64 0, .int .i64 0, .int .i64 0, .int .i64 0] 23))) := Lib.hid h3.2.2
  have HB0 : Hid (Below w.heap.size w (((w.alloc (.cells (mC m) 25)).alloc (.cells #[.int .i64 v0, .int .i64 v1, .int .i64 v2, .int .i64 v3] 23)).alloc (.cells #[.int .i64 0, .int .i64 0, .int .i64 0, .int .i64 0] 23))) := Lib.hid (by go_grown)
  have CW1 : Hid (Ans 30 #[.agg (mC m), .int .i64 4611686018427387904] (.bool (wB 4611686018427387904 m 16))) := Lib.hid fun w => zwithin_any m 4611686018427387904 w hm (by omega) (by omega)
  have CW2 : Hid (Ans 30 #[.agg (mC [v0, v1, v2, v3, 0, 0, 0, 0, 0, 0, 0, 0, 0, 0, 0, 0]), .int .i64 4611686018427387904] (.bool (wB 4611686018427387904 [v0, v1, v2, v3] 4))) := Lib.hid fun w => by rw [← wB_pad]; exact zwithin_any [v0, v1, v2, v3, 0, 0, 0, 0, 0, 0, 0, 0, 0, 0, 0, 0] 4611686018427387904 w rfl (by omega) (by omega)
  obtain ⟨b1, h1⟩ : ∃ b, wB 4611686018427387904 m 16 = b := ⟨_, rfl⟩
  obtain ⟨b2, h2⟩ : ∃ b, wB 4611686018427387904 [v0, v1, v2, v3] 4 = b := ⟨_, rfl⟩
  rw [h1] at CW1
  rw [h2] at CW2
  have H1 := Lib.hid h1
  have H2 := Lib.hid h2
  have BM := Lib.hid bm
  have BV := Lib.hid bv0
  clear hm hinf h3 h1 h2 bm bv0
  go_enter Tryz.func42, Tryz.ntmps42
  go_wp2_with (refine wpList_load_row rfl 25 (.tmp 2) rfl (w.heap.size) rfl _ _ _ _ RM0.out Tryz.underlying25 rfl HINF.out ?_)
  generalize (((w.alloc (.cells (mC m) 25)).alloc (.cells #[.int .i64 v0, .int .i64 v1, .int .i64 v2, .int .i64 v3] 23)).alloc (.cells #[.int .i64 0, .int .i64 0, .int .i64 0, .int .i64 0] 23)) = V at RM0 RV0 RR0 HB0 ⊢
  refine (CW1.out _).mono ?_
  rintro e w1 ⟨rfl, hb1⟩
  have RM1 : Hid (RowAt 25 w.heap.size (mC m) w1) := Lib.hid (RM0.out.below hb1)
  have RV1 : Hid (RowAt 23 (w.heap.size + 1) #[.int .i64 v0, .int .i64 v1, .int .i64 v2, .int .i64 v3] w1) := Lib.hid (RV0.out.below hb1)
  have RR1 : Hid (RowAt 23 (w.heap.size + 1 + 1) #[.int .i64 0, .int .i64 0, .int .i64 0, .int .i64 0] w1) := Lib.hid (RR0.out.below hb1)
  have HB1 : Hid (Below w.heap.size w w1) := Lib.hid (bnext HB0.out hb1)
  clear RM0 RV0 RR0 HB0 hb1
  go_wp2_with (first | (refine wpList_load_row rfl 23 (.tmp 3) rfl (w.heap.size + 1) rfl _ _ _ _ RV1.out Tryz.underlying23 rfl (by kernel_rfl) ?_) | (refine wpList_build_to rfl 25 #[(0, .tmp 14)] rfl (mC [v0, v1, v2, v3, 0, 0, 0, 0, 0, 0, 0, 0, 0, 0, 0, 0]) (by kernel_rfl) ?_))
  refine (CW2.out _).mono ?_
  rintro e w2 ⟨rfl, hb2⟩
  have RM2 : Hid (RowAt 25 w.heap.size (mC m) w2) := Lib.hid (RM1.out.below hb2)
  have RV2 : Hid (RowAt 23 (w.heap.size + 1) #[.int .i64 v0, .int .i64 v1, .int .i64 v2, .int .i64 v3] w2) := Lib.hid (RV1.out.below hb2)
  have RR2 : Hid (RowAt 23 (w.heap.size + 1 + 1) #[.int .i64 0, .int .i64 0, .int .i64 0, .int .i64 0] w2) := Lib.hid (RR1.out.below hb2)
  have HB2 : Hid (Below w.heap.size w w2) := Lib.hid (bnext HB1.out hb2)
  have hz2 : w.heap.size + 1 + 1 < w2.heap.size := RR2.out.lt
  clear RM1 RV1 RR1 HB1 hb2 CW1 CW2
  cases b1 with
  | false =>
    have HNO : Hid (apO m [v0, v1, v2, v3] = none) := Lib.hid (ap_no1 H1.out)
    have z0 := RowAt.cell (j := 0) RR2.out
    have z1 := RowAt.cell (j := 1) RR2.out
    have z2 := RowAt.cell (j := 2) RR2.out
    have z3 := RowAt.cell (j := 3) RR2.out
    have y0 := RowAt.free (j := 0) RR2.out
    have y1 := RowAt.free (j := 1) RR2.out
    have y2 := RowAt.free (j := 2) RR2.out
    have y3 := RowAt.free (j := 3) RR2.out
    simp only [List.getElem?_toArray, List.getElem?_cons_zero, List.getElem?_cons_succ] at z0 z1 z2 z3
    go_wp2_with fail
    (try simp only [Exit.inBlock, Exit.then])
    exact bodyPost_ret (v := .tuple #[.agg #[.int .i64 0, .int .i64 0, .int .i64 0, .int .i64 0], .int .i64 30]) (results_row_tmp rfl _ _ (w.heap.size + 1 + 1) _ #[.int .i64 0, .int .i64 0, .int .i64 0, .int .i64 0] _ _ (.int .i64 30) rfl (RR2.out.put4 _ _ _ _) Tryz.underlying23 rfl (by kernel_rfl) rfl) rfl ⟨by rw [HNO.out]; rfl, Below.put4 HB2.out (by omega) _ _ _ _⟩
  | true =>
    cases b2 with
    | false =>
      have HNO : Hid (apO m [v0, v1, v2, v3] = none) := Lib.hid (ap_no2 H2.out)
      have z0 := RowAt.cell (j := 0) RR2.out
      have z1 := RowAt.cell (j := 1) RR2.out
      have z2 := RowAt.cell (j := 2) RR2.out
      have z3 := RowAt.cell (j := 3) RR2.out
      have y0 := RowAt.free (j := 0) RR2.out
      have y1 := RowAt.free (j := 1) RR2.out
      have y2 := RowAt.free (j := 2) RR2.out
      have y3 := RowAt.free (j := 3) RR2.out
      simp only [List.getElem?_toArray, List.getElem?_cons_zero, List.getElem?_cons_succ] at z0 z1 z2 z3
      go_wp2_with fail
      (try simp only [Exit.inBlock, Exit.then])
      exact bodyPost_ret (v := .tuple #[.agg #[.int .i64 0, .int .i64 0, .int .i64 0, .int .i64 0], .int .i64 30]) (results_row_tmp rfl _ _ (w.heap.size + 1 + 1) _ #[.int .i64 0, .int .i64 0, .int .i64 0, .int .i64 0] _ _ (.int .i64 30) rfl (RR2.out.put4 _ _ _ _) Tryz.underlying23 rfl (by kernel_rfl) rfl) rfl ⟨by rw [HNO.out]; rfl, Below.put4 HB2.out (by omega) _ _ _ _⟩
    | true =>
      have hz2' : w.heap.size + 1 + 1 < (w2.alloc (.cells #[.int .i64 0, .int .i64 0, .int .i64 0, .int .i64 0] 23)).heap.size := by simp; omega
      have AI0 : Hid (AI m v0 v1 v2 v3 0 w2.heap.size w (w2.alloc (.cells #[.int .i64 0, .int .i64 0, .int .i64 0, .int .i64 0] 23))) := Lib.hid ⟨RM2.out.alloc _, RV2.out.alloc _, RR2.out.alloc _, heap_alloc_new _ _, hz2, HB2.out.alloc HB2.out.size _⟩
      go_wp2_with fail
      generalize (w2.alloc (.cells #[.int .i64 0, .int .i64 0, .int .i64 0, .int .i64 0] 23)) = V2 at AI0 ⊢
      generalize w2.heap.size = B at AI0 ⊢
      clear RM2 RV2 RR2 HB2 hz2 hz2'
      go_loopg [9] 4 (ZpRel m v0 v1 v2 v3 B w)
      case atStart => exact ⟨0, rfl, rfl, by omega, fun j hj => absurd hj (by omega), AI0.out⟩
      case round =>
        clear AI0
        obtain ⟨r, hg, rfl, hr4, hok, I⟩ := hrel
        have HI := Lib.hid I
        have HOK := Lib.hid hok
        clear I hok
        subst hg
        by_cases hr : r < 4
        · have r1 : (r : Int) < 4 := by omega
          obtain ⟨q, hq⟩ : ∃ q, pq (rowOf m r) [v0, v1, v2, v3] = q := ⟨_, rfl⟩
          have HNX : Hid (∀ W, AI m v0 v1 v2 v3 r B w W → AI m v0 v1 v2 v3 (r + 1) B w (W.setCell ⟨B, r, none⟩ (.int .i64 q))) := Lib.hid (fun W h => by have := h.next hr; rw [hq] at this; exact this)
          have cS : Hid (Ans 59 #[.agg #[.int .i64 (m.getD (r * 4) 0), .int .i64 (m.getD (r * 4 + 1) 0), .int .i64 (m.getD (r * 4 + 2) 0), .int .i64 (m.getD (r * 4 + 3) 0)], .agg #[.int .i64 v0, .int .i64 v1, .int .i64 v2, .int .i64 v3]] (.tuple #[.int .i64 (suV q), .bool (okB 4611686018427387904 q)])) := Lib.hid fun w => by
            have := zsum_any (rowOf m r) [v0, v1, v2, v3] w rfl rfl (bound_row BM.out r) BV.out
            rw [hq] at this
            exact this
          have hc0 : Hid (∀ W, RowAt 25 w.heap.size (mC m) W → W.cell? ⟨w.heap.size, r * 4, none⟩ = some (.int .i64 (m.getD (r * 4) 0)) ∧ W.cell? ⟨w.heap.size, r * 4 + 1, none⟩ = some (.int .i64 (m.getD (r * 4 + 1) 0)) ∧ W.cell? ⟨w.heap.size, r * 4 + 2, none⟩ = some (.int .i64 (m.getD (r * 4 + 2) 0)) ∧ W.cell? ⟨w.heap.size, r * 4 + 3, none⟩ = some (.int .i64 (m.getD (r * 4 + 3) 0))) := Lib.hid (fun W h => ⟨by rw [h.cell, mC_cell (by rw [HM.out]; omega)], by rw [h.cell, mC_cell (by rw [HM.out]; omega)], by rw [h.cell, mC_cell (by rw [HM.out]; omega)], by rw [h.cell, mC_cell (by rw [HM.out]; omega)]⟩)
          have HQ := Lib.hid hq
          generalize m.getD (r * 4) 0 = a0 at cS hc0
          generalize m.getD (r * 4 + 1) 0 = a1 at cS hc0
          generalize m.getD (r * 4 + 2) 0 = a2 at cS hc0
          generalize m.getD (r * 4 + 3) 0 = a3 at cS hc0
          obtain ⟨bq, hbq⟩ : ∃ b, okB 4611686018427387904 q = b := ⟨_, rfl⟩
          obtain ⟨n, hn⟩ : ∃ n, suV q = n := ⟨_, rfl⟩
          rw [hbq, hn] at cS
          have HBQ := Lib.hid hbq
          have hnq : bq = true → n = q := fun h => by rw [← hn]; unfold suV; rw [hbq, h]; rfl
          have HNQ := Lib.hid hnq
          clear hq hbq hn hnq
          go_wp2_with fail
          rename_i K9 hK9
          refine (wpIn_wide (n := 5)).1 (give_region (S := fun X => Below wr.heap.size wr X) (Z := []) (by kernel_rfl) (by kernel_rfl) below_mono (fun d _ _ _ _ h => by cases d <;> exact h) (bdrew0 _ _ 1) (fun hG vw0 hw0 => ?_))
          refine grow_pure [] 0 (?_) hG rfl (by kernel_rfl) hw0 (by kernel_rfl) ?_ ?_
          rotate_left
          · intro wz hSw; (first | (go_simp; done) | (go_simp; with_reducible rfl))
          intro vw1 hw1 hbn
          clear hbn hw0 vw0
          (try simp only [Act.put, List.getElem_toArray, List.getElem_cons_zero, List.getElem_cons_succ, List.setIfInBounds_toArray, List.set_cons_zero, List.set_cons_succ])
          refine grow_pure [] 1 (.pointer (some ⟨w.heap.size, r * 4, none⟩)) hG rfl (by kernel_rfl) hw1 (by kernel_rfl) ?_ ?_
          · intro wz hSw; (first | (go_simp; done) | (go_simp; with_reducible rfl))
          intro vw2 hw2 hbn
          clear hbn hw1 vw1
          (try simp only [Act.put, List.getElem_toArray, List.getElem_cons_zero, List.getElem_cons_succ, List.setIfInBounds_toArray, List.set_cons_zero, List.set_cons_succ])
          refine grow_pure [] 2 (.agg #[.int .i64 a0, .int .i64 a1, .int .i64 a2, .int .i64 a3]) hG rfl (by kernel_rfl) hw2 (by kernel_rfl) ?_ ?_
          · intro wz hSw; obtain ⟨c0, c1, c2, c3⟩ := hc0.out wz (RowAt.below hSw HI.out.bm); (first | (go_simp; done) | (go_simp; with_reducible rfl))
          intro vw3 hw3 hbn
          clear hbn hw2 vw2
          (try simp only [Act.put, List.getElem_toArray, List.getElem_cons_zero, List.getElem_cons_succ, List.setIfInBounds_toArray, List.set_cons_zero, List.set_cons_succ])
          refine grow_pure [] 3 (.agg #[.int .i64 v0, .int .i64 v1, .int .i64 v2, .int .i64 v3]) hG rfl (by kernel_rfl) hw3 (by kernel_rfl) ?_ ?_
          · intro wz hSw; exact exec_load_row 23 (.tmp 3) (by kernel_rfl) (w.heap.size + 1) (by kernel_rfl) _ _ _ _ (RowAt.below hSw HI.out.bv) Tryz.underlying23 (by kernel_rfl) (by kernel_rfl)
          intro vw4 hw4 hbn
          clear hbn hw3 vw3
          (try simp only [Act.put, List.getElem_toArray, List.getElem_cons_zero, List.getElem_cons_succ, List.setIfInBounds_toArray, List.set_cons_zero, List.set_cons_succ])
          refine grow_call [] 4 59 #[.agg #[.int .i64 a0, .int .i64 a1, .int .i64 a2, .int .i64 a3], .agg #[.int .i64 v0, .int .i64 v1, .int .i64 v2, .int .i64 v3]] (.tuple #[.int .i64 n, .bool bq]) hG rfl (by kernel_rfl) hw4 (by kernel_rfl) ?_ (cS.out) ?_
          · intro wz; (first | (go_simp; done) | (go_simp; with_reducible rfl))
          intro vw5 hw5 hbn
          clear hbn hw4 vw4
          (try simp only [Act.put, List.getElem_toArray, List.getElem_cons_zero, List.getElem_cons_succ, List.setIfInBounds_toArray, List.set_cons_zero, List.set_cons_succ])
          refine grow_pure [] 5 (?_) hG rfl (by kernel_rfl) hw5 (by kernel_rfl) ?_ ?_
          rotate_left
          · intro wz hSw; (first | (go_simp; done) | (go_simp; with_reducible rfl))
          intro vw6 hw6 hbn
          clear hbn hw5 vw5
          (try simp only [Act.put, List.getElem_toArray, List.getElem_cons_zero, List.getElem_cons_succ, List.setIfInBounds_toArray, List.set_cons_zero, List.set_cons_succ])
          refine grow_pure [] 6 (?_) hG rfl (by kernel_rfl) hw6 (by kernel_rfl) ?_ ?_
          rotate_left
          · intro wz hSw; (first | (go_simp; done) | (go_simp; with_reducible rfl))
          intro vw7 hw7 hbn
          clear hbn hw6 vw6
          (try simp only [Act.put, List.getElem_toArray, List.getElem_cons_zero, List.getElem_cons_succ, List.setIfInBounds_toArray, List.set_cons_zero, List.set_cons_succ])
          refine grow_pure [] 7 (?_) hG rfl (by kernel_rfl) hw7 (by kernel_rfl) ?_ ?_
          rotate_left
          · intro wz hSw; (first | (go_simp; done) | (go_simp; with_reducible rfl))
          intro vw8 hw8 hbn
          clear hbn hw7 vw7
          (try simp only [Act.put, List.getElem_toArray, List.getElem_cons_zero, List.getElem_cons_succ, List.setIfInBounds_toArray, List.set_cons_zero, List.set_cons_succ])
          refine grow_pure [] 8 (?_) hG rfl (by kernel_rfl) hw8 (by kernel_rfl) ?_ ?_
          rotate_left
          · intro wz hSw; (first | (go_simp; done) | (go_simp; with_reducible rfl))
          intro vw9 hw9 hbn
          clear hbn hw8 vw8
          (try simp only [Act.put, List.getElem_toArray, List.getElem_cons_zero, List.getElem_cons_succ, List.setIfInBounds_toArray, List.set_cons_zero, List.set_cons_succ])
          refine grow_pure [] 9 (?_) hG rfl (by kernel_rfl) hw9 (by kernel_rfl) ?_ ?_
          rotate_left
          · intro wz hSw; (first | (go_simp; done) | (go_simp; with_reducible rfl))
          intro vw10 hw10 hbn
          clear hbn hw9 vw9
          (try simp only [Act.put, List.getElem_toArray, List.getElem_cons_zero, List.getElem_cons_succ, List.setIfInBounds_toArray, List.set_cons_zero, List.set_cons_succ])
          refine give_done (by kernel_rfl) (?_) _
          refine hK9 _ _ ?_
          have I1 := Lib.hid (HI.out.up hw10)
          clear hK9 hG HI cS hc0 hw10
          cases bq with
          | false =>
            have HNO : Hid (apO m [v0, v1, v2, v3] = none) := Lib.hid (ap_bad hr (by rw [HQ.out]; exact HBQ.out))
            have z0 := RowAt.cell (j := 0) (show RowAt 23 (w.heap.size + 1 + 1) #[.int .i64 0, .int .i64 0, .int .i64 0, .int .i64 0] _ from I1.out.br)
            have z1 := RowAt.cell (j := 1) (show RowAt 23 (w.heap.size + 1 + 1) #[.int .i64 0, .int .i64 0, .int .i64 0, .int .i64 0] _ from I1.out.br)
            have z2 := RowAt.cell (j := 2) (show RowAt 23 (w.heap.size + 1 + 1) #[.int .i64 0, .int .i64 0, .int .i64 0, .int .i64 0] _ from I1.out.br)
            have z3 := RowAt.cell (j := 3) (show RowAt 23 (w.heap.size + 1 + 1) #[.int .i64 0, .int .i64 0, .int .i64 0, .int .i64 0] _ from I1.out.br)
            have y0 := RowAt.free (j := 0) (show RowAt 23 (w.heap.size + 1 + 1) #[.int .i64 0, .int .i64 0, .int .i64 0, .int .i64 0] _ from I1.out.br)
            have y1 := RowAt.free (j := 1) (show RowAt 23 (w.heap.size + 1 + 1) #[.int .i64 0, .int .i64 0, .int .i64 0, .int .i64 0] _ from I1.out.br)
            have y2 := RowAt.free (j := 2) (show RowAt 23 (w.heap.size + 1 + 1) #[.int .i64 0, .int .i64 0, .int .i64 0, .int .i64 0] _ from I1.out.br)
            have y3 := RowAt.free (j := 3) (show RowAt 23 (w.heap.size + 1 + 1) #[.int .i64 0, .int .i64 0, .int .i64 0, .int .i64 0] _ from I1.out.br)
            simp only [List.getElem?_toArray, List.getElem?_cons_zero, List.getElem?_cons_succ] at z0 z1 z2 z3
            go_wp2_with fail
            (try simp only [Exit.inBlock, Exit.then])
            exact bodyPost_ret (v := .tuple #[.agg #[.int .i64 0, .int .i64 0, .int .i64 0, .int .i64 0], .int .i64 30]) (results_row_tmp rfl _ _ (w.heap.size + 1 + 1) _ #[.int .i64 0, .int .i64 0, .int .i64 0, .int .i64 0] _ _ (.int .i64 30) rfl (RowAt.put4 (show RowAt 23 (w.heap.size + 1 + 1) #[.int .i64 0, .int .i64 0, .int .i64 0, .int .i64 0] _ from I1.out.br) _ _ _ _) Tryz.underlying23 rfl (by kernel_rfl) rfl) rfl ⟨by rw [HNO.out]; rfl, Below.put4 I1.out.below (by omega) _ _ _ _⟩
          | true =>
            obtain rfl := HNQ.out rfl
            have cb : vw10.cell? ⟨B, r, none⟩ = some (.int .i64 ((apL m [v0, v1, v2, v3] r).getD r 0)) := by rw [cell_of_row _ _ _ _ _ _ I1.out.ba, mC_at _ _ (by rw [apL_len]; exact hr)]
            have fb : vw10.frozen? ⟨B, r, none⟩ = false := frozen_row I1.out.ba
            have I2 := Lib.hid (HNX.out _ I1.out)
            clear I1 HNX
            go_wp2_with fail
            go_roundg (4 - (r + 1))
            case measure => omega
            case rel =>
              refine ⟨r + 1, rfl, by go_num, by omega, fun j hj => ?_, I2.out⟩
              by_cases hjr : j < r
              · exact HOK.out j hjr
              · rw [show j = r by omega, HQ.out]; exact HBQ.out
        · obtain rfl : r = 4 := by omega
          have r1 : ¬ ((4 : Nat) : Int) < 4 := by omega
          have HYES : Hid (apO m [v0, v1, v2, v3] = some (apRows m [v0, v1, v2, v3])) := Lib.hid (ap_good H1.out H2.out HOK.out)
          have RB : Hid (RowAt 23 B (mC (apRows m [v0, v1, v2, v3])) wr) := Lib.hid (by have := HI.out.ba; rw [apL_end] at this; exact this)
          have RR : Hid (RowAt 23 (w.heap.size + 1 + 1) #[.int .i64 0, .int .i64 0, .int .i64 0, .int .i64 0] wr) := Lib.hid HI.out.br
          have HE : Hid (Below w.heap.size w (wr.setRow (w.heap.size + 1 + 1) (mC (apRows m [v0, v1, v2, v3])))) := Lib.hid (Below.row HI.out.below (by omega) _)
          clear HI
          go_wp2_with (first | (refine wpList_load_row rfl 23 (.tmp 8) rfl (B) rfl _ _ _ _ RB.out Tryz.underlying23 rfl (by kernel_rfl) ?_) | (refine wpList_store_big rfl 23 (.tmp 4) (.tmp 43) rfl (w.heap.size + 1 + 1) _ _ (mC (apRows m [v0, v1, v2, v3])) rfl rfl RR.out (by kernel_rfl) rfl (mC_one _) ?_))
          exact bodyPost_ret (v := .tuple #[.agg (mC (apRows m [v0, v1, v2, v3])), .int .i64 0]) (results_row_tmp rfl _ _ (w.heap.size + 1 + 1) _ (mC (apRows m [v0, v1, v2, v3])) _ _ (.int .i64 0) rfl (RR.out.row _) Tryz.underlying23 rfl (by kernel_rfl) rfl) rfl ⟨by rw [HYES.out]; rfl, HE.out⟩
theorem zapply_any (m v : List Int) (w : World) (hm : m.length = 16) (hv : v.length = 4) (bm : ∀ j, -9223372036854775808 ≤ m.getD j 0 ∧ m.getD j 0 ≤ 9223372036854775807) (bv0 : ∀ j, -9223372036854775808 ≤ v.getD j 0 ∧ v.getD j 0 ≤ 9223372036854775807) :
    Calls Tryz.prog 42 #[.agg (mC m), .agg (mC v)] w (RetV (apO m v) w) := by
  have e := list4 hv
  rw [e] at bv0 ⊢
  exact zapply4 m _ _ _ _ w hm bm bv0
end Go.Proofs.YtildnadkfonlhaaGreat.Fx
set_option linter.unusedVariables false
set_option linter.unusedSimpArgs false
namespace Go.Proofs.YtildnadkfonlhaaGreat.Fx
open Go Go.RowKit Wm
def colX (a b : List Int) (c r : Nat) : Int := ((colO a b c).getD []).getD r 0
def outL (a b : List Int) (c r : Nat) : List Int := (List.range 16).map fun p => if p % 4 < c ∨ (p % 4 = c ∧ p / 4 < r) then colX a b (p % 4) (p / 4) else 0
theorem outL_len (a b : List Int) (c r : Nat) : (outL a b c r).length = 16 := by simp [outL]
theorem outL_zero (a b : List Int) : outL a b 0 0 = zero16 := rfl
theorem outL_col (a b : List Int) (c : Nat) (hc : c < 4) : outL a b c 4 = outL a b (c + 1) 0 := by
  have hd : c = 0 ∨ c = 1 ∨ c = 2 ∨ c = 3 := by omega
  rcases hd with rfl | rfl | rfl | rfl <;> rfl
theorem outL_end (a b : List Int) : outL a b 4 0 = tr (csA a b) := rfl
theorem outL_step (a b : List Int) (c r : Nat) (hc : c < 4) (hr : r < 4) : (outL a b c r).set (r * 4 + c) (colX a b c r) = outL a b c (r + 1) := by
  have hd : c = 0 ∨ c = 1 ∨ c = 2 ∨ c = 3 := by omega
  have he : r = 0 ∨ r = 1 ∨ r = 2 ∨ r = 3 := by omega
  rcases hd with rfl | rfl | rfl | rfl <;> rcases he with rfl | rfl | rfl | rfl <;> rfl
theorem col_row (b : List Int) (c : Nat) (hc : c < 4) : rowOf (tr b) c = [b.getD c 0, b.getD (4 + c) 0, b.getD (8 + c) 0, b.getD (12 + c) 0] := by
  have hd : c = 0 ∨ c = 1 ∨ c = 2 ∨ c = 3 := by omega
  rcases hd with rfl | rfl | rfl | rfl <;> rfl
structure MzI (a b : List Int) (B c r : Nat) (w W : World) : Prop where
  ra : RowAt 25 w.heap.size (mC a) W
  rb : RowAt 25 (w.heap.size + 1) (mC b) W
  rr : RowAt 25 (w.heap.size + 1 + 1) (mC zero16) W
  ro : RowAt 25 B (mC (outL a b c r)) W
  below : Below w.heap.size w W
  lt : w.heap.size + 1 + 1 < B
theorem MzI.up {a b : List Int} {B c r : Nat} {w W V : World} (i : MzI a b B c r w W) (hb : Below W.heap.size W V) : MzI a b B c r w V := ⟨i.ra.below hb, i.rb.below hb, i.rr.below hb, i.ro.below hb, bnext i.below hb, i.lt⟩
theorem RowAt.otherC {t : TypeId} {g k j : Nat} {cs : Array Value} {W : World} (h : RowAt t g cs W) (hk : g ≠ k) (v : Value) : RowAt t g cs (W.setCell ⟨k, j, none⟩ v) := by unfold RowAt; rw [heap_setCell_other _ _ _ _ (by show g ≠ k; exact hk)]; exact h
theorem MzI.next {a b : List Int} {B c r : Nat} {w W : World} (i : MzI a b B c r w W) (hc : c < 4) (hr : r < 4) : MzI a b B c (r + 1) w (W.setCell ⟨B, r * 4 + c, none⟩ (.int .i64 (colX a b c r))) := by
  have hB := i.lt
  refine ⟨i.ra.otherC (by omega) _, i.rb.otherC (by omega) _, i.rr.otherC (by omega) _, ?_, i.below.setCell (p := ⟨B, r * 4 + c, none⟩) (by show _ ≤ B; omega) _, hB⟩
  have := heap_setCell_same _ _ (r * 4 + c) _ _ (.int .i64 (colX a b c r)) i.ro
  unfold RowAt
  rw [this, mC_put, outL_step _ _ _ _ hc hr]
def MzRel (a b : List Int) (B : Nat) (w : World) (g : Nat) (s : Value) (W : World) : Prop :=
  ∃ c, g = 4 - c ∧ s = .int .i64 (c : Int) ∧ c ≤ 4 ∧ (∀ j, j < c → (colO a b j).isSome = true) ∧ MzI a b B c 0 w W
def MyRel (a b : List Int) (B c bC : Nat) (u : List Int) (w : World) (g : Nat) (s : Value) (W : World) : Prop :=
  ∃ r, g = 4 - r ∧ s = .int .i64 (r : Int) ∧ r ≤ 4 ∧ MzI a b B c r w W ∧ RowAt 23 bC (mC u) W
theorem colO_len {a b : List Int} {c : Nat} {u : List Int} (h : colO a b c = some u) : u.length = 4 := by
  unfold colO apO at h
  split at h
  · cases h; rfl
  · cases h
theorem mul_all {a b : List Int} (h : ∀ j, j < 4 → (colO a b j).isSome = true) : mulO a b = some (tr (csA a b)) := by
  unfold mulO
  rw [if_pos ⟨h 0 (by omega), h 1 (by omega), h 2 (by omega), h 3 (by omega)⟩]
set_option maxRecDepth 100000 in
set_option maxHeartbeats 8000000 in
theorem zmmul_any (a b : List Int) (w : World) (la : a.length = 16) (lb : b.length = 16) (ba : ∀ j, -9223372036854775808 ≤ a.getD j 0 ∧ a.getD j 0 ≤ 9223372036854775807) (bb : ∀ j, -9223372036854775808 ≤ b.getD j 0 ∧ b.getD j 0 ≤ 9223372036854775807) :
    Calls Tryz.prog 35 #[.agg (mC a), .agg (mC b)] w (RetMM (mulO a b) w) := by
  have LA := Lib.hid la
  have LB := Lib.hid lb
  have BA := Lib.hid ba
  have BBd := Lib.hid bb
  have hinf : (Tryz.prog.info? 25).map (·.size) = some (mC a).size := by rw [size16, mC_size, la]
  have HINF := Lib.hid hinf
  have h3 := block3s w (.cells (mC a) 25) (.cells (mC b) 25) (.cells #[.int .i64 0, .int .i64 0, .int .i64 0, .int .i64 0, .int .i64 0, .int .i64 0, .int .i64 0, .int .i64 0, .int .i64 0, .int .i64 0, .int .i64 0, .int .i64 0, .int .i64 0, .int .i64 0, .int .i64 0, .int .i64 0] 25)
  have RA0 : Hid (RowAt 25 w.heap.size (mC a) (((w.alloc (.cells (mC a) 25)).alloc (.cells (mC b) 25)).alloc (.cells #[.int .i64 0, .int .i64 0, .int .i64 0, .int .i64 0, .int .i64 0, .int .i64 0, .int .i64 0, .int .i64 0, .int .i64 0, .int .i64 0, .int .i64 0, .int .i64 0, .int .i64 0, .int .i64 0, .int .i64 0, .int .i64 0] 25))) := Lib.hid h3.1
  have RB0 : Hid (RowAt 25 (w.heap.size + 1) (mC b) (((w.alloc (.cells (mC a) 25)).alloc (.cells (mC b) 25)).alloc (.cells #[.int .i64 0, .int .i64 0, .int .i64 0, .int .i64 0, .int .i64 0, .int .i64 0, .int .i64 0, .int .i64 0, .int .i64 0, .int .i64 0, .int .i64 0, .int .i64 0, .int .i64 0, .int .i64 0, .int .i64 0, .int .i64 0] 25))) := Lib.hid h3.2.1
  have RR0 : Hid (RowAt 25 (w.heap.size + 1 + 1) (mC zero16) (((w.alloc (.cells (mC a) 25)).alloc (.cells (mC b) 25)).alloc (.cells #[.int .i64 0, .int .i64 0, .int .i64 0, .int .i64 0, .int .i64 0, .int .i64 0, .int .i64 0, .int .i64 0, .int .i64 0, .int .i64 0, .int .i64 0, .int .i64 0, .int .i64 0, .int .i64 0, .int .i64 0, .int .i64 0] 25))) := Lib.hid h3.2.2
  have HB0 : Hid (Below w.heap.size w (((w.alloc (.cells (mC a) 25)).alloc (.cells (mC b) 25)).alloc (.cells #[.int .i64 0, .int .i64 0, .int .i64 0, .int .i64 0, .int .i64 0, .int .i64 0, .int .i64 0, .int .i64 0, .int .i64 0, .int .i64 0, .int .i64 0, .int .i64 0, .int .i64 0, .int .i64 0, .int .i64 0, .int .i64 0] 25))) := Lib.hid (by go_grown)
  clear la lb ba bb hinf h3
  have hsz : ((((w.alloc (.cells (mC a) 25)).alloc (.cells (mC b) 25)).alloc (.cells #[.int .i64 0, .int .i64 0, .int .i64 0, .int .i64 0, .int .i64 0, .int .i64 0, .int .i64 0, .int .i64 0, .int .i64 0, .int .i64 0, .int .i64 0, .int .i64 0, .int .i64 0, .int .i64 0, .int .i64 0, .int .i64 0] 25))).heap.size = w.heap.size + 1 + 1 + 1 := by simp
  have RN : Hid (RowAt 25 (w.heap.size + 1 + 1 + 1) (mC zero16) ((((w.alloc (.cells (mC a) 25)).alloc (.cells (mC b) 25)).alloc (.cells #[.int .i64 0, .int .i64 0, .int .i64 0, .int .i64 0, .int .i64 0, .int .i64 0, .int .i64 0, .int .i64 0, .int .i64 0, .int .i64 0, .int .i64 0, .int .i64 0, .int .i64 0, .int .i64 0, .int .i64 0, .int .i64 0] 25)).alloc (.cells #[.int .i64 0, .int .i64 0, .int .i64 0, .int .i64 0, .int .i64 0, .int .i64 0, .int .i64 0, .int .i64 0, .int .i64 0, .int .i64 0, .int .i64 0, .int .i64 0, .int .i64 0, .int .i64 0, .int .i64 0, .int .i64 0] 25))) := Lib.hid (by rw [← hsz]; exact heap_alloc_new _ _)
  have I0 : Hid (MzI a b (w.heap.size + 1 + 1 + 1) 0 0 w (((((w.alloc (.cells (mC a) 25)).alloc (.cells (mC b) 25)).alloc (.cells #[.int .i64 0, .int .i64 0, .int .i64 0, .int .i64 0, .int .i64 0, .int .i64 0, .int .i64 0, .int .i64 0, .int .i64 0, .int .i64 0, .int .i64 0, .int .i64 0, .int .i64 0, .int .i64 0, .int .i64 0, .int .i64 0] 25)).alloc (.cells #[.int .i64 0, .int .i64 0, .int .i64 0, .int .i64 0, .int .i64 0, .int .i64 0, .int .i64 0, .int .i64 0, .int .i64 0, .int .i64 0, .int .i64 0, .int .i64 0, .int .i64 0, .int .i64 0, .int .i64 0, .int .i64 0] 25)).setRow (w.heap.size + 1 + 1 + 1) (mC zero16))) := Lib.hid ⟨(RA0.out.alloc _).other (by omega) _, (RB0.out.alloc _).other (by omega) _, (RR0.out.alloc _).other (by omega) _, RN.out.row _, Below.row (HB0.out.alloc HB0.out.size _) (by omega) _, by omega⟩
  clear RA0 RB0 RR0 HB0 hsz
  go_enter Tryz.func35, Tryz.ntmps35
  go_wp2_with (first | (refine wpList_build_to rfl 25 #[] rfl (mC zero16) (by kernel_rfl) ?_) | (refine wpList_store_big rfl 25 (.tmp 6) (.tmp 11) rfl (w.heap.size + 1 + 1 + 1) _ _ (mC zero16) rfl rfl RN.out size16 rfl (mC_one _) ?_))
  generalize (((((w.alloc (.cells (mC a) 25)).alloc (.cells (mC b) 25)).alloc (.cells #[.int .i64 0, .int .i64 0, .int .i64 0, .int .i64 0, .int .i64 0, .int .i64 0, .int .i64 0, .int .i64 0, .int .i64 0, .int .i64 0, .int .i64 0, .int .i64 0, .int .i64 0, .int .i64 0, .int .i64 0, .int .i64 0] 25)).alloc (.cells #[.int .i64 0, .int .i64 0, .int .i64 0, .int .i64 0, .int .i64 0, .int .i64 0, .int .i64 0, .int .i64 0, .int .i64 0, .int .i64 0, .int .i64 0, .int .i64 0, .int .i64 0, .int .i64 0, .int .i64 0, .int .i64 0] 25)).setRow (w.heap.size + 1 + 1 + 1) (mC zero16)) = V2 at I0 ⊢
  clear RN
  generalize w.heap.size + 1 + 1 + 1 = B at I0 ⊢
  go_loopg [7] 4 (MzRel a b B w)
  case atStart => exact ⟨0, rfl, rfl, by omega, fun j hj => absurd hj (by omega), I0.out⟩
  case round =>
    clear I0
    obtain ⟨c, hg, rfl, hc4, hok, I⟩ := hrel
    have HI := Lib.hid I
    have HOK := Lib.hid hok
    clear I hok
    subst hg
    by_cases hc : c < 4
    · have c1 : (c : Int) < 4 := by omega
      obtain ⟨o, ho⟩ : ∃ o, colO a b c = o := ⟨_, rfl⟩
      obtain ⟨u, hu⟩ : ∃ u, o.getD [0, 0, 0, 0] = u := ⟨_, rfl⟩
      obtain ⟨er, her⟩ : ∃ er : Int, (if o.isSome then (0 : Int) else 30) = er := ⟨_, rfl⟩
      have hlu : u.length = 4 := by
        rw [← hu]
        cases o with
        | none => rfl
        | some x => exact colO_len ho
      have cA : Hid (Ans 42 #[.agg (mC a), .agg #[.int .i64 (b.getD c 0), .int .i64 (b.getD (4 + c) 0), .int .i64 (b.getD (8 + c) 0), .int .i64 (b.getD (12 + c) 0)]] (.tuple #[.agg (mC u), .int .i64 er])) := Lib.hid fun w => by
        have := zapply_any a (rowOf (tr b) c) w LA.out rfl BA.out (by
          rw [col_row b c hc]
          intro j
          match j with
          | 0 => exact BBd.out _
          | 1 => exact BBd.out _
          | 2 => exact BBd.out _
          | 3 => exact BBd.out _
          | j + 4 => simp)
        rw [col_row b c hc] at this
        have e : apO a [b.getD c 0, b.getD (4 + c) 0, b.getD (8 + c) 0, b.getD (12 + c) 0] = o := by rw [← ho]; unfold colO; rw [col_row b c hc]
        rw [e] at this
        unfold RetV at this
        rw [hu, her] at this
        exact this
      have hcb : Hid (∀ W, RowAt 25 (w.heap.size + 1) (mC b) W → W.cell? ⟨w.heap.size + 1, c, none⟩ = some (.int .i64 (b.getD c 0)) ∧ W.cell? ⟨w.heap.size + 1, 4 + c, none⟩ = some (.int .i64 (b.getD (4 + c) 0)) ∧ W.cell? ⟨w.heap.size + 1, 8 + c, none⟩ = some (.int .i64 (b.getD (8 + c) 0)) ∧ W.cell? ⟨w.heap.size + 1, 12 + c, none⟩ = some (.int .i64 (b.getD (12 + c) 0))) := Lib.hid (fun W h => ⟨by rw [h.cell, mC_cell (by rw [LB.out]; omega)], by rw [h.cell, mC_cell (by rw [LB.out]; omega)], by rw [h.cell, mC_cell (by rw [LB.out]; omega)], by rw [h.cell, mC_cell (by rw [LB.out]; omega)]⟩)
      have HO := Lib.hid ho
      have HU := Lib.hid hu
      have HER := Lib.hid her
      have HLU := Lib.hid hlu
      have infu : (Tryz.prog.info? 23).map (·.size) = some (mC u).size := by rw [size4, mC_size, hlu]
      have INFU := Lib.hid infu
      clear ho hu her hlu infu
      generalize b.getD c 0 = b0 at cA hcb
      generalize b.getD (4 + c) 0 = b1 at cA hcb
      generalize b.getD (8 + c) 0 = b2 at cA hcb
      generalize b.getD (12 + c) 0 = b3 at cA hcb
      go_wp2_with fail
      rename_i K5 hK5
      refine (wpIn_wide (n := 5)).1 (give_region (S := fun X => Below wr.heap.size wr X) (Z := []) (by kernel_rfl) (by kernel_rfl) below_mono (fun d _ _ _ _ h => by cases d <;> exact h) (bdrew0 _ _ 1) (fun hG vw0 hw0 => ?_))
      refine grow_pure [] 0 (.agg (mC a)) hG rfl (by kernel_rfl) hw0 (by kernel_rfl) ?_ ?_
      · intro wz hSw; exact exec_load_row 25 (.tmp 2) (by kernel_rfl) (w.heap.size) (by kernel_rfl) _ _ _ _ (RowAt.below hSw HI.out.ra) Tryz.underlying25 (by kernel_rfl) HINF.out
      intro vw1 hw1 hbn
      clear hbn hw0 vw0
      (try simp only [Act.put, List.getElem_toArray, List.getElem_cons_zero, List.getElem_cons_succ, List.setIfInBounds_toArray, List.set_cons_zero, List.set_cons_succ])
      refine grow_pure [] 1 (?_) hG rfl (by kernel_rfl) hw1 (by kernel_rfl) ?_ ?_
      rotate_left
      · intro wz hSw; (first | (go_simp; done) | (go_simp; with_reducible rfl))
      intro vw2 hw2 hbn
      clear hbn hw1 vw1
      (try simp only [Act.put, List.getElem_toArray, List.getElem_cons_zero, List.getElem_cons_succ, List.setIfInBounds_toArray, List.set_cons_zero, List.set_cons_succ])
      refine grow_pure [] 2 (?_) hG rfl (by kernel_rfl) hw2 (by kernel_rfl) ?_ ?_
      rotate_left
      · intro wz hSw; (first | (go_simp; done) | (go_simp; with_reducible rfl))
      intro vw3 hw3 hbn
      clear hbn hw2 vw2
      (try simp only [Act.put, List.getElem_toArray, List.getElem_cons_zero, List.getElem_cons_succ, List.setIfInBounds_toArray, List.set_cons_zero, List.set_cons_succ])
      refine grow_pure [] 3 (.pointer (some ⟨w.heap.size + 1, c, none⟩)) hG rfl (by kernel_rfl) hw3 (by kernel_rfl) ?_ ?_
      · intro wz hSw; (first | (go_simp; done) | (go_simp; with_reducible rfl))
      intro vw4 hw4 hbn
      clear hbn hw3 vw3
      (try simp only [Act.put, List.getElem_toArray, List.getElem_cons_zero, List.getElem_cons_succ, List.setIfInBounds_toArray, List.set_cons_zero, List.set_cons_succ])
      refine grow_pure [] 4 (.int .i64 b0) hG rfl (by kernel_rfl) hw4 (by kernel_rfl) ?_ ?_
      · intro wz hSw; obtain ⟨q0, q1, q2, q3⟩ := hcb.out wz (RowAt.below hSw HI.out.rb); (first | (go_simp; done) | (go_simp; with_reducible rfl))
      intro vw5 hw5 hbn
      clear hbn hw4 vw4
      (try simp only [Act.put, List.getElem_toArray, List.getElem_cons_zero, List.getElem_cons_succ, List.setIfInBounds_toArray, List.set_cons_zero, List.set_cons_succ])
      refine grow_pure [] 5 (?_) hG rfl (by kernel_rfl) hw5 (by kernel_rfl) ?_ ?_
      rotate_left
      · intro wz hSw; (first | (go_simp; done) | (go_simp; with_reducible rfl))
      intro vw6 hw6 hbn
      clear hbn hw5 vw5
      (try simp only [Act.put, List.getElem_toArray, List.getElem_cons_zero, List.getElem_cons_succ, List.setIfInBounds_toArray, List.set_cons_zero, List.set_cons_succ])
      refine grow_pure [] 6 (?_) hG rfl (by kernel_rfl) hw6 (by kernel_rfl) ?_ ?_
      rotate_left
      · intro wz hSw; (first | (go_simp; done) | (go_simp; with_reducible rfl))
      intro vw7 hw7 hbn
      clear hbn hw6 vw6
      (try simp only [Act.put, List.getElem_toArray, List.getElem_cons_zero, List.getElem_cons_succ, List.setIfInBounds_toArray, List.set_cons_zero, List.set_cons_succ])
      refine grow_pure [] 7 (.pointer (some ⟨w.heap.size + 1, 4 + c, none⟩)) hG rfl (by kernel_rfl) hw7 (by kernel_rfl) ?_ ?_
      · intro wz hSw; (first | (go_simp; done) | (go_simp; with_reducible rfl))
      intro vw8 hw8 hbn
      clear hbn hw7 vw7
      (try simp only [Act.put, List.getElem_toArray, List.getElem_cons_zero, List.getElem_cons_succ, List.setIfInBounds_toArray, List.set_cons_zero, List.set_cons_succ])
      refine grow_pure [] 8 (.int .i64 b1) hG rfl (by kernel_rfl) hw8 (by kernel_rfl) ?_ ?_
      · intro wz hSw; obtain ⟨q0, q1, q2, q3⟩ := hcb.out wz (RowAt.below hSw HI.out.rb); (first | (go_simp; done) | (go_simp; with_reducible rfl))
      intro vw9 hw9 hbn
      clear hbn hw8 vw8
      (try simp only [Act.put, List.getElem_toArray, List.getElem_cons_zero, List.getElem_cons_succ, List.setIfInBounds_toArray, List.set_cons_zero, List.set_cons_succ])
      refine grow_pure [] 9 (?_) hG rfl (by kernel_rfl) hw9 (by kernel_rfl) ?_ ?_
      rotate_left
      · intro wz hSw; (first | (go_simp; done) | (go_simp; with_reducible rfl))
      intro vw10 hw10 hbn
      clear hbn hw9 vw9
      (try simp only [Act.put, List.getElem_toArray, List.getElem_cons_zero, List.getElem_cons_succ, List.setIfInBounds_toArray, List.set_cons_zero, List.set_cons_succ])
      refine grow_pure [] 10 (?_) hG rfl (by kernel_rfl) hw10 (by kernel_rfl) ?_ ?_
      rotate_left
      · intro wz hSw; (first | (go_simp; done) | (go_simp; with_reducible rfl))
      intro vw11 hw11 hbn
      clear hbn hw10 vw10
      (try simp only [Act.put, List.getElem_toArray, List.getElem_cons_zero, List.getElem_cons_succ, List.setIfInBounds_toArray, List.set_cons_zero, List.set_cons_succ])
      refine grow_pure [] 11 (.pointer (some ⟨w.heap.size + 1, 8 + c, none⟩)) hG rfl (by kernel_rfl) hw11 (by kernel_rfl) ?_ ?_
      · intro wz hSw; (first | (go_simp; done) | (go_simp; with_reducible rfl))
      intro vw12 hw12 hbn
      clear hbn hw11 vw11
      (try simp only [Act.put, List.getElem_toArray, List.getElem_cons_zero, List.getElem_cons_succ, List.setIfInBounds_toArray, List.set_cons_zero, List.set_cons_succ])
      refine grow_pure [] 12 (.int .i64 b2) hG rfl (by kernel_rfl) hw12 (by kernel_rfl) ?_ ?_
      · intro wz hSw; obtain ⟨q0, q1, q2, q3⟩ := hcb.out wz (RowAt.below hSw HI.out.rb); (first | (go_simp; done) | (go_simp; with_reducible rfl))
      intro vw13 hw13 hbn
      clear hbn hw12 vw12
      (try simp only [Act.put, List.getElem_toArray, List.getElem_cons_zero, List.getElem_cons_succ, List.setIfInBounds_toArray, List.set_cons_zero, List.set_cons_succ])
      refine grow_pure [] 13 (?_) hG rfl (by kernel_rfl) hw13 (by kernel_rfl) ?_ ?_
      rotate_left
      · intro wz hSw; (first | (go_simp; done) | (go_simp; with_reducible rfl))
      intro vw14 hw14 hbn
      clear hbn hw13 vw13
      (try simp only [Act.put, List.getElem_toArray, List.getElem_cons_zero, List.getElem_cons_succ, List.setIfInBounds_toArray, List.set_cons_zero, List.set_cons_succ])
      refine grow_pure [] 14 (?_) hG rfl (by kernel_rfl) hw14 (by kernel_rfl) ?_ ?_
      rotate_left
      · intro wz hSw; (first | (go_simp; done) | (go_simp; with_reducible rfl))
      intro vw15 hw15 hbn
      clear hbn hw14 vw14
      (try simp only [Act.put, List.getElem_toArray, List.getElem_cons_zero, List.getElem_cons_succ, List.setIfInBounds_toArray, List.set_cons_zero, List.set_cons_succ])
      refine grow_pure [] 15 (.pointer (some ⟨w.heap.size + 1, 12 + c, none⟩)) hG rfl (by kernel_rfl) hw15 (by kernel_rfl) ?_ ?_
      · intro wz hSw; (first | (go_simp; done) | (go_simp; with_reducible rfl))
      intro vw16 hw16 hbn
      clear hbn hw15 vw15
      (try simp only [Act.put, List.getElem_toArray, List.getElem_cons_zero, List.getElem_cons_succ, List.setIfInBounds_toArray, List.set_cons_zero, List.set_cons_succ])
      refine grow_pure [] 16 (.int .i64 b3) hG rfl (by kernel_rfl) hw16 (by kernel_rfl) ?_ ?_
      · intro wz hSw; obtain ⟨q0, q1, q2, q3⟩ := hcb.out wz (RowAt.below hSw HI.out.rb); (first | (go_simp; done) | (go_simp; with_reducible rfl))
      intro vw17 hw17 hbn
      clear hbn hw16 vw16
      (try simp only [Act.put, List.getElem_toArray, List.getElem_cons_zero, List.getElem_cons_succ, List.setIfInBounds_toArray, List.set_cons_zero, List.set_cons_succ])
      refine grow_pure [] 17 (.agg #[.int .i64 b0, .int .i64 b1, .int .i64 b2, .int .i64 b3]) hG rfl (by kernel_rfl) hw17 (by kernel_rfl) ?_ ?_
      · intro wz hSw; (first | (go_simp; done) | (go_simp; with_reducible rfl))
      intro vw18 hw18 hbn
      clear hbn hw17 vw17
      (try simp only [Act.put, List.getElem_toArray, List.getElem_cons_zero, List.getElem_cons_succ, List.setIfInBounds_toArray, List.set_cons_zero, List.set_cons_succ])
      refine grow_call [] 18 42 #[.agg (mC a), .agg #[.int .i64 b0, .int .i64 b1, .int .i64 b2, .int .i64 b3]] (.tuple #[.agg (mC u), .int .i64 er]) hG rfl (by kernel_rfl) hw18 (by kernel_rfl) ?_ (cA.out) ?_
      · intro wz; (first | (go_simp; done) | (go_simp; with_reducible rfl))
      intro vw19 hw19 hbn
      clear hbn hw18 vw18
      (try simp only [Act.put, List.getElem_toArray, List.getElem_cons_zero, List.getElem_cons_succ, List.setIfInBounds_toArray, List.set_cons_zero, List.set_cons_succ])
      refine grow_pure [] 19 (?_) hG rfl (by kernel_rfl) hw19 (by kernel_rfl) ?_ ?_
      rotate_left
      · intro wz hSw; (first | (go_simp; done) | (go_simp; with_reducible rfl))
      intro vw20 hw20 hbn
      clear hbn hw19 vw19
      (try simp only [Act.put, List.getElem_toArray, List.getElem_cons_zero, List.getElem_cons_succ, List.setIfInBounds_toArray, List.set_cons_zero, List.set_cons_succ])
      refine grow_pure [] 20 (?_) hG rfl (by kernel_rfl) hw20 (by kernel_rfl) ?_ ?_
      rotate_left
      · intro wz hSw; (first | (go_simp; done) | (go_simp; with_reducible rfl))
      intro vw21 hw21 hbn
      clear hbn hw20 vw20
      (try simp only [Act.put, List.getElem_toArray, List.getElem_cons_zero, List.getElem_cons_succ, List.setIfInBounds_toArray, List.set_cons_zero, List.set_cons_succ])
      refine grow_pure [] 21 (?_) hG rfl (by kernel_rfl) hw21 (by kernel_rfl) ?_ ?_
      rotate_left
      · intro wz hSw; (first | (go_simp; done) | (go_simp; with_reducible rfl))
      intro vw22 hw22 hbn
      clear hbn hw21 vw21
      (try simp only [Act.put, List.getElem_toArray, List.getElem_cons_zero, List.getElem_cons_succ, List.setIfInBounds_toArray, List.set_cons_zero, List.set_cons_succ])
      refine give_step 22 (by kernel_rfl) rfl (fun K hK => ?_)
      go_simp
      obtain ⟨bC, hbC⟩ : ∃ b, vw22.heap.size = b := ⟨_, rfl⟩
      have gbC : wr.heap.size ≤ bC := by rw [← hbC]; exact hw22.size
      rw [hbC]
      have hw230 : Below wr.heap.size wr (vw22.alloc (.cells #[.int .i64 0, .int .i64 0, .int .i64 0, .int .i64 0] 23)) := Below.alloc hw22 (by have := hw22.size; omega) _
      have TC := (show RowAt 23 bC #[.int .i64 0, .int .i64 0, .int .i64 0, .int .i64 0] (vw22.alloc (.cells #[.int .i64 0, .int .i64 0, .int .i64 0, .int .i64 0] 23)) by rw [← hbC]; exact RowAt.new _ _ _)
      refine hK.out _ _ (fun _ => hw230) (fun vw23 hbn => ?_)
      have hw23 := below_mono _ _ hw230 hbn
      have RC := RowAt.below hbn TC
      clear TC
      clear hbn hK K hw22 hw230
      (try simp only [Act.put, List.getElem_toArray, List.getElem_cons_zero, List.getElem_cons_succ, List.setIfInBounds_toArray, List.set_cons_zero, List.set_cons_succ])
      clear hbC
      refine give_step 23 (by kernel_rfl) rfl (fun K hK => ?_)
      rw [if_pos (by kernel_rfl)]
      refine wpIn_store_row (fun _ => trivial) 23 (.tmp 8) (.tmp 36) (by kernel_rfl) (bC) _ _ (mC u) (by kernel_rfl) (by kernel_rfl) RC INFU.out (by rw [mC_size, HLU.out]; rfl) (mC_one _) ?_
      have hw240 : Below wr.heap.size wr (vw23.setRow bC (mC u)) := Below.row hw23 (by omega) _
      have TC := RowAt.row RC (mC u)
      refine hK.out _ _ (fun _ => hw240) (fun vw24 hbn => ?_)
      have hw24 := below_mono _ _ hw240 hbn
      replace RC := RowAt.below hbn TC
      clear TC
      clear hbn hK K hw23 hw240
      (try simp only [Act.put, List.getElem_toArray, List.getElem_cons_zero, List.getElem_cons_succ, List.setIfInBounds_toArray, List.set_cons_zero, List.set_cons_succ])
      refine grow_pure [] 24 (?_) hG rfl (by kernel_rfl) hw24 (by kernel_rfl) ?_ ?_
      rotate_left
      · intro wz hSw; (first | (go_simp; done) | (go_simp; with_reducible rfl))
      intro vw25 hw25 hbn
      replace RC := RowAt.below hbn RC
      clear hbn hw24 vw24
      (try simp only [Act.put, List.getElem_toArray, List.getElem_cons_zero, List.getElem_cons_succ, List.setIfInBounds_toArray, List.set_cons_zero, List.set_cons_succ])
      refine give_done (by kernel_rfl) (?_) _
      refine hK5 _ _ ?_
      have RCH := Lib.hid RC
      have I1 := Lib.hid (HI.out.up hw25)
      have gC : B < bC := by have := HI.out.ro.lt; omega
      clear RC hK5 hG HI cA hcb gbC hw25
      cases o with
      | none =>
        obtain rfl : er = 30 := HER.out.symm
        have HNO : Hid (mulO a b = none) := Lib.hid (mulO_none hc HO.out)
        go_wp2_with (first | (refine wpList_build_to rfl 25 #[] rfl (mC zero16) (by kernel_rfl) ?_) | (refine wpList_store_big rfl 25 (.tmp 4) (.tmp 40) rfl (w.heap.size + 1 + 1) _ _ (mC zero16) rfl rfl I1.out.rr size16 rfl (mC_one _) ?_))
        (try simp only [Exit.inBlock, Exit.then])
        exact bodyPost_ret (v := .tuple #[.agg (mC zero16), .int .i64 30]) (results_row_tmp rfl _ _ (w.heap.size + 1 + 1) _ (mC zero16) _ _ (.int .i64 30) rfl (I1.out.rr.row _) Tryz.underlying25 rfl (by kernel_rfl) rfl) rfl ⟨by rw [HNO.out]; rfl, Below.row I1.out.below (by omega) _⟩
      | some x =>
        obtain rfl : x = u := HU.out
        obtain rfl : er = 0 := HER.out.symm
        have HX : Hid (∀ r, colX a b c r = x.getD r 0) := Lib.hid (fun r => by unfold colX; rw [HO.out]; rfl)
        go_wp2_with fail
        go_loopg [10] 4 (MyRel a b B c bC x w)
        case atStart => exact ⟨0, rfl, rfl, by omega, I1.out, RCH.out⟩
        case round =>
          clear I1 RCH
          obtain ⟨r, hg, rfl, hr4, I, RC⟩ := hrel
          have HI := Lib.hid I
          have HRC := Lib.hid RC
          clear I RC
          subst hg
          by_cases hr : r < 4
          · have r1 : (r : Int) < 4 := by omega
            obtain ⟨y, hy⟩ : ∃ y, colX a b c r = y := ⟨_, rfl⟩
            have HNX : Hid (∀ W, MzI a b B c r w W → MzI a b B c (r + 1) w (W.setCell ⟨B, r * 4 + c, none⟩ (.int .i64 y))) := Lib.hid (fun W h => by have := h.next hc hr; rw [hy] at this; exact this)
            have hcu : Hid (∀ W, RowAt 23 bC (mC x) W → W.cell? ⟨bC, r, none⟩ = some (.int .i64 y)) := Lib.hid (fun W h => by rw [h.cell, mC_cell (by rw [HLU.out]; exact hr), ← hy, HX.out])
            clear hy
            go_wp2_with fail
            rename_i K11 hK11
            refine (wpIn_wide (n := 5)).1 (give_region (S := fun X => Below wr.heap.size wr X) (Z := [7]) (by kernel_rfl) (by kernel_rfl) below_mono (fun d _ _ _ _ h => by cases d <;> exact h) (bdrew0 _ _ 1) (fun hG vw0 hw0 => ?_))
            refine give_pure [7] 0 (?_) hG rfl (by kernel_rfl) hw0 (by kernel_rfl) ?_ ?_
            rotate_left
            · intro wz hSw; (first | (go_simp; done) | (go_simp; with_reducible rfl))
            intro vw1 hw1
            clear hw0 vw0
            (try simp only [Act.put, List.getElem_toArray, List.getElem_cons_zero, List.getElem_cons_succ, List.setIfInBounds_toArray, List.set_cons_zero, List.set_cons_succ])
            refine give_pure [7] 1 (?_) hG rfl (by kernel_rfl) hw1 (by kernel_rfl) ?_ ?_
            rotate_left
            · intro wz hSw; (first | (go_simp; done) | (go_simp; with_reducible rfl))
            intro vw2 hw2
            clear hw1 vw1
            (try simp only [Act.put, List.getElem_toArray, List.getElem_cons_zero, List.getElem_cons_succ, List.setIfInBounds_toArray, List.set_cons_zero, List.set_cons_succ])
            refine give_pure [7] 2 (?_) hG rfl (by kernel_rfl) hw2 (by kernel_rfl) ?_ ?_
            rotate_left
            · intro wz hSw; (first | (go_simp; done) | (go_simp; with_reducible rfl))
            intro vw3 hw3
            clear hw2 vw2
            (try simp only [Act.put, List.getElem_toArray, List.getElem_cons_zero, List.getElem_cons_succ, List.setIfInBounds_toArray, List.set_cons_zero, List.set_cons_succ])
            refine give_pure [7] 3 (.pointer (some ⟨bC, r, none⟩)) hG rfl (by kernel_rfl) hw3 (by kernel_rfl) ?_ ?_
            · intro wz hSw; (first | (go_simp; done) | (go_simp; with_reducible rfl))
            intro vw4 hw4
            clear hw3 vw3
            (try simp only [Act.put, List.getElem_toArray, List.getElem_cons_zero, List.getElem_cons_succ, List.setIfInBounds_toArray, List.set_cons_zero, List.set_cons_succ])
            refine give_pure [7] 4 (.int .i64 y) hG rfl (by kernel_rfl) hw4 (by kernel_rfl) ?_ ?_
            · intro wz hSw; have hcc := hcu.out wz (RowAt.below hSw HRC.out); (first | (go_simp; done) | (go_simp; with_reducible rfl))
            intro vw5 hw5
            clear hw4 vw4
            (try simp only [Act.put, List.getElem_toArray, List.getElem_cons_zero, List.getElem_cons_succ, List.setIfInBounds_toArray, List.set_cons_zero, List.set_cons_succ])
            refine give_pure [6, 7] 5 (.pointer (some ⟨B, r * 4, none⟩)) hG rfl (by kernel_rfl) hw5 (by kernel_rfl) ?_ ?_
            · intro wz hSw; (first | (go_simp; done) | (go_simp; with_reducible rfl))
            intro vw6 hw6
            clear hw5 vw5
            (try simp only [Act.put, List.getElem_toArray, List.getElem_cons_zero, List.getElem_cons_succ, List.setIfInBounds_toArray, List.set_cons_zero, List.set_cons_succ])
            refine give_pure [7] 6 (.pointer (some ⟨B, r * 4 + c, none⟩)) hG rfl (by kernel_rfl) hw6 (by kernel_rfl) ?_ ?_
            · intro wz hSw; (first | (go_simp; done) | (go_simp; with_reducible rfl))
            intro vw7 hw7
            clear hw6 vw6
            (try simp only [Act.put, List.getElem_toArray, List.getElem_cons_zero, List.getElem_cons_succ, List.setIfInBounds_toArray, List.set_cons_zero, List.set_cons_succ])
            have hs := HI.out.up hw7
            have hrc := HRC.out.below hw7
            have hco : vw7.cell? ⟨B, r * 4 + c, none⟩ = some (.int .i64 ((outL a b c r).getD (r * 4 + c) 0)) := by rw [hs.ro.cell, mC_cell (by rw [outL_len]; omega)]
            have hfo : vw7.frozen? ⟨B, r * 4 + c, none⟩ = false := hs.ro.free
            refine give_step 7 (by kernel_rfl) rfl (fun K hK => ?_)
            go_simp
            refine hK.out _ _ (fun h => by cases h) (fun x4 hx4 => ?_)
            clear hK K
            have I2 := Lib.hid ((HNX.out _ hs).up hx4)
            have RC2 := Lib.hid (RowAt.below hx4 (hrc.otherC (k := B) (j := r * 4 + c) (by omega) (.int .i64 y)))
            clear hs hrc hco hfo hx4
            refine give_done (by kernel_rfl) (?_) _
            refine hK11 _ _ ?_
            clear hK11 hG HI HRC HNX hcu hw7 vw7
            go_wp2_with fail
            go_roundg (4 - (r + 1))
            case measure => omega
            case rel => exact ⟨r + 1, rfl, by go_num, by omega, I2.out, RC2.out⟩
          · obtain rfl : r = 4 := by omega
            have r1 : ¬ ((4 : Nat) : Int) < 4 := by omega
            have I2 : Hid (MzI a b B (c + 1) 0 w wr) := Lib.hid (by have h := HI.out; exact ⟨h.ra, h.rb, h.rr, by have := h.ro; rw [outL_col _ _ _ hc] at this; exact this, h.below, h.lt⟩)
            clear HI HRC
            go_wp2_with fail
            go_roundg (4 - (c + 1))
            case measure => omega
            case rel =>
              refine ⟨c + 1, rfl, by go_num, by omega, fun j hj => ?_, I2.out⟩
              by_cases hjc : j < c
              · exact HOK.out j hjc
              · rw [show j = c by omega, HO.out]; rfl
    · obtain rfl : c = 4 := by omega
      have c1 : ¬ ((4 : Nat) : Int) < 4 := by omega
      have HYES : Hid (mulO a b = some (tr (csA a b))) := Lib.hid (mul_all HOK.out)
      have RO : Hid (RowAt 25 B (mC (tr (csA a b))) wr) := Lib.hid (by have := HI.out.ro; rw [outL_end] at this; exact this)
      have RR : Hid (RowAt 25 (w.heap.size + 1 + 1) (mC zero16) wr) := Lib.hid HI.out.rr
      have infz : Hid ((Tryz.prog.info? 25).map (·.size) = some (mC (tr (csA a b))).size) := Lib.hid (by rw [size16, mC_size, tr_len])
      have same : Hid ((mC zero16).size = (mC (tr (csA a b))).size) := Lib.hid (by rw [mC_size, mC_size, tr_len]; rfl)
      have HE : Hid (Below w.heap.size w (wr.setRow (w.heap.size + 1 + 1) (mC (tr (csA a b))))) := Lib.hid (Below.row HI.out.below (by omega) _)
      clear HI
      generalize tr (csA a b) = Q at HYES RO infz same HE
      go_wp2_with (first | (refine wpList_load_row rfl 25 (.tmp 6) rfl (B) rfl _ _ _ _ RO.out Tryz.underlying25 rfl infz.out ?_) | (refine wpList_store_big rfl 25 (.tmp 4) (.tmp 53) rfl (w.heap.size + 1 + 1) _ _ (mC Q) rfl rfl RR.out infz.out same.out (mC_one _) ?_))
      exact bodyPost_ret (v := .tuple #[.agg (mC Q), .int .i64 0]) (results_row_tmp rfl _ _ (w.heap.size + 1 + 1) _ (mC Q) _ _ (.int .i64 0) rfl (RR.out.row _) Tryz.underlying25 rfl infz.out rfl) rfl ⟨by rw [HYES.out]; rfl, HE.out⟩
end Go.Proofs.YtildnadkfonlhaaGreat.Fx
