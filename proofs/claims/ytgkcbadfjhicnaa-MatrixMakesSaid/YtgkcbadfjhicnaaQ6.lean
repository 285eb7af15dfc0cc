/- The document's turns, walked. -/
import Derived.Test.YtgkcbadfjhicnaaProg
import Derived.Test.YtgkcbadfjhicnaaQ4
import Derived.Test.YtgkcbadfjhicnaaTu
set_option linter.unusedVariables false
set_option linter.unusedSimpArgs false
namespace Go.Proofs.Ytgkcbadfjhicnaa.Fx
open Go Go.RowKit Wm
def qtL (a : Nat) : List Int := if a = 0 then [65536, 0, 0, 0, 0, 0, -65536, 0, 0, 65536, 0, 0, 0, 0, 0, 65536] else if a = 1 then [0, 0, 65536, 0, 0, 65536, 0, 0, -65536, 0, 0, 0, 0, 0, 0, 65536] else [0, -65536, 0, 0, 65536, 0, 0, 0, 0, 0, 65536, 0, 0, 0, 0, 65536]
theorem qt_next (a i : Nat) (ha : a < 3) (hi : i < 3) : mulO (qtL a) (trn a i) = some (trn a (i + 1)) := by
  have hd : a = 0 ∨ a = 1 ∨ a = 2 := by omega
  have he : i = 0 ∨ i = 1 ∨ i = 2 := by omega
  rcases hd with rfl | rfl | rfl <;> rcases he with rfl | rfl | rfl <;> decide +kernel
theorem trn_zero (a : Nat) (ha : a < 3) : trn a 0 = idl := by
  have hd : a = 0 ∨ a = 1 ∨ a = 2 := by omega
  rcases hd with rfl | rfl | rfl <;> rfl
theorem qt_bound (a : Nat) (ha : a < 3) : ∀ j, -9223372036854775808 ≤ (qtL a).getD j 0 ∧ (qtL a).getD j 0 ≤ 9223372036854775807 := by
  intro j
  have h : ∀ (l : List Int), (l.all fun x => decide (-9223372036854775808 ≤ x ∧ x ≤ 9223372036854775807)) = true → -9223372036854775808 ≤ l.getD j 0 ∧ l.getD j 0 ≤ 9223372036854775807 := by
    intro l hl
    rw [List.getD_eq_getElem?_getD]
    cases hj : l[j]? with
    | none => simp
    | some z =>
      have := List.all_eq_true.1 hl z (List.mem_of_getElem? hj)
      simpa using this
  have hd : a = 0 ∨ a = 1 ∨ a = 2 := by omega
  rcases hd with rfl | rfl | rfl <;> exact h _ (by decide +kernel)
theorem trn_bound (a i : Nat) (ha : a < 3) (hi : i < 4) : ∀ j, -9223372036854775808 ≤ (trn a i).getD j 0 ∧ (trn a i).getD j 0 ≤ 9223372036854775807 := by
  intro j
  have h : ∀ (l : List Int), (l.all fun x => decide (-9223372036854775808 ≤ x ∧ x ≤ 9223372036854775807)) = true → -9223372036854775808 ≤ l.getD j 0 ∧ l.getD j 0 ≤ 9223372036854775807 := by
    intro l hl
    rw [List.getD_eq_getElem?_getD]
    cases hj : l[j]? with
    | none => simp
    | some z =>
      have := List.all_eq_true.1 hl z (List.mem_of_getElem? hj)
      simpa using this
  have hd : a = 0 ∨ a = 1 ∨ a = 2 := by omega
  have he : i = 0 ∨ i = 1 ∨ i = 2 ∨ i = 3 := by omega
  rcases hd with rfl | rfl | rfl <;> rcases he with rfl | rfl | rfl | rfl <;> exact h _ (by decide +kernel)
structure ZtI (Q M : List Int) (w W : World) : Prop where
  rr : RowAt 64 w.heap.size (mC zero16) W
  rq : RowAt 64 (w.heap.size + 1) (mC Q) W
  ro : RowAt 64 (w.heap.size + 1 + 1) (mC M) W
  below : Below w.heap.size w W
theorem ZtI.up {Q M : List Int} {w W V : World} (i : ZtI Q M w W) (hb : Below W.heap.size W V) : ZtI Q M w V := ⟨i.rr.below hb, i.rq.below hb, i.ro.below hb, bnext i.below hb⟩
theorem ZtI.put {Q M : List Int} {w W : World} (i : ZtI Q M w W) (M2 : List Int) : ZtI Q M2 w (W.setRow (w.heap.size + 1 + 1) (mC M2)) :=
  ⟨i.rr.other (by omega) _, i.rq.other (by omega) _, i.ro.row _, Below.row i.below (by omega) _⟩
def ZtRel (a r : Nat) (w : World) (g : Nat) (s : Value) (W : World) : Prop := ∃ i, g = r - i ∧ s = .int .i64 (i : Int) ∧ i ≤ r ∧ ZtI (qtL a) (trn a i) w W
theorem tmod4 {q : Int} {r : Nat} (hr : r < 4) (hq : q % 4 = (r : Int)) : (q.tmod 4 < 0 ∧ q.tmod 4 + 4 = (r : Int)) ∨ (¬ q.tmod 4 < 0 ∧ q.tmod 4 = (r : Int)) := by
  have h := Int.tmod_eq_emod (a := q) (b := 4)
  simp at h
  split at h <;> omega
theorem zturn_no (a q : Int) (w : World) (h : a < 0 ∨ 3 ≤ a) : Calls Try.prog 43 #[.int .i64 a, .int .i64 q] w fun e w' => e = .returned (.tuple #[.agg (mC zero16), .int .i64 2]) ∧ Below w.heap.size w w' := by
  by_cases h1 : a < 0
  · go_enter Try.func43, Try.ntmps43
    go_wp2_with (first | (refine wpList_build_to rfl 64 #[] rfl (mC zero16) (by kernel_rfl) ?_) | (refine wpList_store_big rfl 64 (.tmp 4) (.tmp 17) rfl w.heap.size _ _ (mC zero16) rfl rfl (heap_alloc_new _ _) size16 rfl (mC_one _) ?_))
    exact bodyPost_ret (v := .tuple #[.agg (mC zero16), .int .i64 2]) (results_row2 rfl _ _ w.heap.size _ (mC zero16) _ _ (.int .i64 2) rfl rfl (setRow_heap _ _ _ _ _ _ (heap_alloc_new _ _)) Try.underlying64 rfl size16) rfl ⟨rfl, Below.row ((Below.refl _ w).alloc (Nat.le_refl _) _) (Nat.le_refl _) _⟩
  · have h2 : 2 < a := by omega
    go_enter Try.func43, Try.ntmps43
    go_wp2_with (first | (refine wpList_build_to rfl 64 #[] rfl (mC zero16) (by kernel_rfl) ?_) | (refine wpList_store_big rfl 64 (.tmp 4) (.tmp 17) rfl w.heap.size _ _ (mC zero16) rfl rfl (heap_alloc_new _ _) size16 rfl (mC_one _) ?_))
    exact bodyPost_ret (v := .tuple #[.agg (mC zero16), .int .i64 2]) (results_row2 rfl _ _ w.heap.size _ (mC zero16) _ _ (.int .i64 2) rfl rfl (setRow_heap _ _ _ _ _ _ (heap_alloc_new _ _)) Try.underlying64 rfl size16) rfl ⟨rfl, Below.row ((Below.refl _ w).alloc (Nat.le_refl _) _) (Nat.le_refl _) _⟩
set_option maxRecDepth 100000 in
set_option maxHeartbeats 8000000 in
theorem zturn_ax0 (q : Int) (r : Nat) (hr : r < 4) (hq : q % 4 = (r : Int)) (w : World) : Calls Try.prog 43 #[.int .i64 0, .int .i64 q] w fun e w' => e = .returned (.tuple #[.agg (mC (trn 0 r)), .int .i64 0]) ∧ Below w.heap.size w w' := by
  have hsz : ((((w.alloc (.cells #[.int .i64 0, .int .i64 0, .int .i64 0, .int .i64 0, .int .i64 0, .int .i64 0, .int .i64 0, .int .i64 0, .int .i64 0, .int .i64 0, .int .i64 0, .int .i64 0, .int .i64 0, .int .i64 0, .int .i64 0, .int .i64 0] 64)).alloc (.cells (mC zero16) 64)).setRow (w.heap.size + 1) (mC (qtL 0)))).heap.size = w.heap.size + 1 + 1 := by simp
  have RQ0 : Hid (RowAt 64 (w.heap.size + 1) (mC zero16) ((w.alloc (.cells #[.int .i64 0, .int .i64 0, .int .i64 0, .int .i64 0, .int .i64 0, .int .i64 0, .int .i64 0, .int .i64 0, .int .i64 0, .int .i64 0, .int .i64 0, .int .i64 0, .int .i64 0, .int .i64 0, .int .i64 0, .int .i64 0] 64)).alloc (.cells (mC zero16) 64))) := Lib.hid (heap_alloc2_new _ _ _)
  have I0 : Hid (ZtI (qtL 0) (trn 0 0) w ((((w.alloc (.cells #[.int .i64 0, .int .i64 0, .int .i64 0, .int .i64 0, .int .i64 0, .int .i64 0, .int .i64 0, .int .i64 0, .int .i64 0, .int .i64 0, .int .i64 0, .int .i64 0, .int .i64 0, .int .i64 0, .int .i64 0, .int .i64 0] 64)).alloc (.cells (mC zero16) 64)).setRow (w.heap.size + 1) (mC (qtL 0))).alloc (.cells (mC idl) 64))) := Lib.hid ⟨RowAt.alloc (RowAt.other (RowAt.alloc (heap_alloc_new _ _) _) (by omega) _) _, RowAt.alloc (RQ0.out.row _) _, (by rw [trn_zero 0 (by omega), ← hsz]; exact heap_alloc_new _ _), Below.alloc (Below.row (by go_grown) (by omega) _) (by rw [hsz]; omega) _⟩
  clear hsz
  have hm := tmod4 hr hq
  have hb1 : -4 ≤ q.tmod 4 := by rcases hm with ⟨h1, h2⟩ | ⟨h1, h2⟩ <;> omega
  have hb2 : q.tmod 4 < 4 := by rcases hm with ⟨h1, h2⟩ | ⟨h1, h2⟩ <;> omega
  clear hq
  rcases hm with ⟨h1, h2⟩ | ⟨h1, h2⟩
  · go_enter Try.func43, Try.ntmps43
    go_wp2_with (first | (refine wpList_build_to rfl 64 #[] rfl (mC zero16) (by kernel_rfl) ?_) | (refine wpList_build_to rfl 64 #[(0, .tmp 33), (1, .tmp 36), (2, .tmp 38), (3, .tmp 40)] rfl (mC (qtL 0)) (by kernel_rfl) ?_) | (refine wpList_build_to rfl 64 #[(0, .tmp 55), (1, .tmp 57), (2, .tmp 59), (3, .tmp 61)] rfl (mC idl) (by kernel_rfl) ?_) | (refine wpList_store_new rfl 64 (.tmp 7) (.tmp 18) rfl (w.heap.size + 1) _ #[.int .i64 0, .int .i64 0, .int .i64 0, .int .i64 0, .int .i64 0, .int .i64 0, .int .i64 0, .int .i64 0, .int .i64 0, .int .i64 0, .int .i64 0, .int .i64 0, .int .i64 0, .int .i64 0, .int .i64 0, .int .i64 0] (mC zero16) rfl (by simp) rfl size16 rfl (mC_one _) ?_) | (refine wpList_store_big rfl 64 (.tmp 7) (.tmp 41) rfl (w.heap.size + 1) _ _ (mC (qtL 0)) rfl rfl RQ0.out size16 rfl (mC_one _) ?_) | (refine wpList_store_new rfl 64 (.tmp 8) (.tmp 62) rfl (w.heap.size + 1 + 1) _ #[.int .i64 0, .int .i64 0, .int .i64 0, .int .i64 0, .int .i64 0, .int .i64 0, .int .i64 0, .int .i64 0, .int .i64 0, .int .i64 0, .int .i64 0, .int .i64 0, .int .i64 0, .int .i64 0, .int .i64 0, .int .i64 0] (mC idl) rfl (by simp) rfl size16 rfl (mC_one _) ?_))
    generalize ((((w.alloc (.cells #[.int .i64 0, .int .i64 0, .int .i64 0, .int .i64 0, .int .i64 0, .int .i64 0, .int .i64 0, .int .i64 0, .int .i64 0, .int .i64 0, .int .i64 0, .int .i64 0, .int .i64 0, .int .i64 0, .int .i64 0, .int .i64 0] 64)).alloc (.cells (mC zero16) 64)).setRow (w.heap.size + 1) (mC (qtL 0))).alloc (.cells (mC idl) 64)) = V at I0 ⊢
    clear RQ0
    try rw [h2]
    clear h1 h2 hb1 hb2
    go_loopg [10] r (ZtRel 0 r w)
    case atStart => exact ⟨0, rfl, rfl, by omega, I0.out⟩
    case round =>
      clear I0
      obtain ⟨i, hg, rfl, hir, I⟩ := hrel
      have HI := Lib.hid I
      clear I
      subst hg
      by_cases hi : i < r
      · have i1 : (i : Int) < (r : Int) := by omega
        obtain ⟨M, hM⟩ : ∃ M, trn 0 i = M := ⟨_, rfl⟩
        obtain ⟨M2, hM2⟩ : ∃ M, trn 0 (i + 1) = M := ⟨_, rfl⟩
        have lM : M.length = 16 := by rw [← hM]; exact trn_len _ _
        have lM2 : M2.length = 16 := by rw [← hM2]; exact trn_len _ _
        have cM : Hid (Ans 34 #[.agg (mC (qtL 0)), .agg (mC M)] (.tuple #[.agg (mC M2), .int .i64 0])) := Lib.hid fun w => by
          have := zmmul_any (qtL 0) (trn 0 i) w rfl (trn_len _ _) (qt_bound 0 (by omega)) (trn_bound 0 i (by omega) (by omega))
          rw [qt_next 0 i (by omega) (by omega), hM, hM2] at this
          exact this
        have I1 : Hid (ZtI (qtL 0) M w wr) := Lib.hid (by rw [← hM]; exact HI.out)
        have RQ := Lib.hid I1.out.rq
        have RO := Lib.hid I1.out.ro
        have iM := Lib.hid (show (Try.prog.info? 64).map (·.size) = some (mC M).size by rw [size16, mC_size, lM])
        have iM2 := Lib.hid (show (Try.prog.info? 64).map (·.size) = some (mC M2).size by rw [size16, mC_size, lM2])
        have sM := Lib.hid (show (mC M).size = (mC M2).size by rw [mC_size, mC_size, lM, lM2])
        have HM2 := Lib.hid hM2
        clear hM hM2 lM lM2 HI
        go_wp2_with (first | (refine wpList_load_row rfl 64 (.tmp 7) rfl (w.heap.size + 1) rfl _ _ _ _ RQ.out Try.underlying64 rfl size16 ?_) | (refine wpList_load_row rfl 64 (.tmp 8) rfl (w.heap.size + 1 + 1) rfl _ _ _ _ RO.out Try.underlying64 rfl iM.out ?_))
        refine (cM.out _).mono ?_
        rintro e w3 ⟨rfl, hb3⟩
        have I3 := Lib.hid (I1.out.up hb3)
        have RO3 := Lib.hid I3.out.ro
        have I4 : Hid (ZtI (qtL 0) (trn 0 (i + 1)) w (w3.setRow (w.heap.size + 1 + 1) (mC M2))) := Lib.hid (by rw [HM2.out]; exact I3.out.put M2)
        clear hb3 I1 RQ RO cM I3
        go_wp2_with (refine wpList_store_big rfl 64 (.tmp 8) (.tmp 78) rfl (w.heap.size + 1 + 1) _ _ (mC M2) rfl rfl RO3.out iM2.out sM.out (mC_one _) ?_)
        go_roundg (r - (i + 1))
        case measure => omega
        case rel => exact ⟨i + 1, rfl, by go_num, by omega, I4.out⟩
      · obtain rfl : i = r := by omega
        have i1 : ¬ (i : Int) < (i : Int) := by omega
        obtain ⟨M, hM⟩ : ∃ M, trn 0 i = M := ⟨_, rfl⟩
        have lM : M.length = 16 := by rw [← hM]; exact trn_len _ _
        have I1 : Hid (ZtI (qtL 0) M w wr) := Lib.hid (by rw [← hM]; exact HI.out)
        have RO := Lib.hid I1.out.ro
        have RR := Lib.hid I1.out.rr
        have HB := Lib.hid I1.out.below
        have iM := Lib.hid (show (Try.prog.info? 64).map (·.size) = some (mC M).size by rw [size16, mC_size, lM])
        have sM := Lib.hid (show (mC zero16).size = (mC M).size by rw [mC_size, mC_size, lM]; rfl)
        have HM := Lib.hid hM
        clear hM lM HI I1
        go_wp2_with (first | (refine wpList_load_row rfl 64 (.tmp 8) rfl (w.heap.size + 1 + 1) rfl _ _ _ _ RO.out Try.underlying64 rfl iM.out ?_) | (refine wpList_store_big rfl 64 (.tmp 4) (.tmp 80) rfl (w.heap.size) _ _ (mC M) rfl rfl RR.out iM.out sM.out (mC_one _) ?_))
        exact bodyPost_ret (v := .tuple #[.agg (mC M), .int .i64 0]) (results_row2 rfl _ _ w.heap.size _ (mC M) _ _ (.int .i64 0) rfl rfl (RR.out.row _) Try.underlying64 rfl iM.out) rfl ⟨by rw [HM.out], Below.row HB.out (Nat.le_refl _) _⟩
  · go_enter Try.func43, Try.ntmps43
    go_wp2_with (first | (refine wpList_build_to rfl 64 #[] rfl (mC zero16) (by kernel_rfl) ?_) | (refine wpList_build_to rfl 64 #[(0, .tmp 33), (1, .tmp 36), (2, .tmp 38), (3, .tmp 40)] rfl (mC (qtL 0)) (by kernel_rfl) ?_) | (refine wpList_build_to rfl 64 #[(0, .tmp 55), (1, .tmp 57), (2, .tmp 59), (3, .tmp 61)] rfl (mC idl) (by kernel_rfl) ?_) | (refine wpList_store_new rfl 64 (.tmp 7) (.tmp 18) rfl (w.heap.size + 1) _ #[.int .i64 0, .int .i64 0, .int .i64 0, .int .i64 0, .int .i64 0, .int .i64 0, .int .i64 0, .int .i64 0, .int .i64 0, .int .i64 0, .int .i64 0, .int .i64 0, .int .i64 0, .int .i64 0, .int .i64 0, .int .i64 0] (mC zero16) rfl (by simp) rfl size16 rfl (mC_one _) ?_) | (refine wpList_store_big rfl 64 (.tmp 7) (.tmp 41) rfl (w.heap.size + 1) _ _ (mC (qtL 0)) rfl rfl RQ0.out size16 rfl (mC_one _) ?_) | (refine wpList_store_new rfl 64 (.tmp 8) (.tmp 62) rfl (w.heap.size + 1 + 1) _ #[.int .i64 0, .int .i64 0, .int .i64 0, .int .i64 0, .int .i64 0, .int .i64 0, .int .i64 0, .int .i64 0, .int .i64 0, .int .i64 0, .int .i64 0, .int .i64 0, .int .i64 0, .int .i64 0, .int .i64 0, .int .i64 0] (mC idl) rfl (by simp) rfl size16 rfl (mC_one _) ?_))
    generalize ((((w.alloc (.cells #[.int .i64 0, .int .i64 0, .int .i64 0, .int .i64 0, .int .i64 0, .int .i64 0, .int .i64 0, .int .i64 0, .int .i64 0, .int .i64 0, .int .i64 0, .int .i64 0, .int .i64 0, .int .i64 0, .int .i64 0, .int .i64 0] 64)).alloc (.cells (mC zero16) 64)).setRow (w.heap.size + 1) (mC (qtL 0))).alloc (.cells (mC idl) 64)) = V at I0 ⊢
    clear RQ0
    try rw [h2]
    clear h1 h2 hb1 hb2
    go_loopg [10] r (ZtRel 0 r w)
    case atStart => exact ⟨0, rfl, rfl, by omega, I0.out⟩
    case round =>
      clear I0
      obtain ⟨i, hg, rfl, hir, I⟩ := hrel
      have HI := Lib.hid I
      clear I
      subst hg
      by_cases hi : i < r
      · have i1 : (i : Int) < (r : Int) := by omega
        obtain ⟨M, hM⟩ : ∃ M, trn 0 i = M := ⟨_, rfl⟩
        obtain ⟨M2, hM2⟩ : ∃ M, trn 0 (i + 1) = M := ⟨_, rfl⟩
        have lM : M.length = 16 := by rw [← hM]; exact trn_len _ _
        have lM2 : M2.length = 16 := by rw [← hM2]; exact trn_len _ _
        have cM : Hid (Ans 34 #[.agg (mC (qtL 0)), .agg (mC M)] (.tuple #[.agg (mC M2), .int .i64 0])) := Lib.hid fun w => by
          have := zmmul_any (qtL 0) (trn 0 i) w rfl (trn_len _ _) (qt_bound 0 (by omega)) (trn_bound 0 i (by omega) (by omega))
          rw [qt_next 0 i (by omega) (by omega), hM, hM2] at this
          exact this
        have I1 : Hid (ZtI (qtL 0) M w wr) := Lib.hid (by rw [← hM]; exact HI.out)
        have RQ := Lib.hid I1.out.rq
        have RO := Lib.hid I1.out.ro
        have iM := Lib.hid (show (Try.prog.info? 64).map (·.size) = some (mC M).size by rw [size16, mC_size, lM])
        have iM2 := Lib.hid (show (Try.prog.info? 64).map (·.size) = some (mC M2).size by rw [size16, mC_size, lM2])
        have sM := Lib.hid (show (mC M).size = (mC M2).size by rw [mC_size, mC_size, lM, lM2])
        have HM2 := Lib.hid hM2
        clear hM hM2 lM lM2 HI
        go_wp2_with (first | (refine wpList_load_row rfl 64 (.tmp 7) rfl (w.heap.size + 1) rfl _ _ _ _ RQ.out Try.underlying64 rfl size16 ?_) | (refine wpList_load_row rfl 64 (.tmp 8) rfl (w.heap.size + 1 + 1) rfl _ _ _ _ RO.out Try.underlying64 rfl iM.out ?_))
        refine (cM.out _).mono ?_
        rintro e w3 ⟨rfl, hb3⟩
        have I3 := Lib.hid (I1.out.up hb3)
        have RO3 := Lib.hid I3.out.ro
        have I4 : Hid (ZtI (qtL 0) (trn 0 (i + 1)) w (w3.setRow (w.heap.size + 1 + 1) (mC M2))) := Lib.hid (by rw [HM2.out]; exact I3.out.put M2)
        clear hb3 I1 RQ RO cM I3
        go_wp2_with (refine wpList_store_big rfl 64 (.tmp 8) (.tmp 78) rfl (w.heap.size + 1 + 1) _ _ (mC M2) rfl rfl RO3.out iM2.out sM.out (mC_one _) ?_)
        go_roundg (r - (i + 1))
        case measure => omega
        case rel => exact ⟨i + 1, rfl, by go_num, by omega, I4.out⟩
      · obtain rfl : i = r := by omega
        have i1 : ¬ (i : Int) < (i : Int) := by omega
        obtain ⟨M, hM⟩ : ∃ M, trn 0 i = M := ⟨_, rfl⟩
        have lM : M.length = 16 := by rw [← hM]; exact trn_len _ _
        have I1 : Hid (ZtI (qtL 0) M w wr) := Lib.hid (by rw [← hM]; exact HI.out)
        have RO := Lib.hid I1.out.ro
        have RR := Lib.hid I1.out.rr
        have HB := Lib.hid I1.out.below
        have iM := Lib.hid (show (Try.prog.info? 64).map (·.size) = some (mC M).size by rw [size16, mC_size, lM])
        have sM := Lib.hid (show (mC zero16).size = (mC M).size by rw [mC_size, mC_size, lM]; rfl)
        have HM := Lib.hid hM
        clear hM lM HI I1
        go_wp2_with (first | (refine wpList_load_row rfl 64 (.tmp 8) rfl (w.heap.size + 1 + 1) rfl _ _ _ _ RO.out Try.underlying64 rfl iM.out ?_) | (refine wpList_store_big rfl 64 (.tmp 4) (.tmp 80) rfl (w.heap.size) _ _ (mC M) rfl rfl RR.out iM.out sM.out (mC_one _) ?_))
        exact bodyPost_ret (v := .tuple #[.agg (mC M), .int .i64 0]) (results_row2 rfl _ _ w.heap.size _ (mC M) _ _ (.int .i64 0) rfl rfl (RR.out.row _) Try.underlying64 rfl iM.out) rfl ⟨by rw [HM.out], Below.row HB.out (Nat.le_refl _) _⟩
set_option maxRecDepth 100000 in
set_option maxHeartbeats 8000000 in
theorem zturn_ax1 (q : Int) (r : Nat) (hr : r < 4) (hq : q % 4 = (r : Int)) (w : World) : Calls Try.prog 43 #[.int .i64 1, .int .i64 q] w fun e w' => e = .returned (.tuple #[.agg (mC (trn 1 r)), .int .i64 0]) ∧ Below w.heap.size w w' := by
  have hsz : ((((w.alloc (.cells #[.int .i64 0, .int .i64 0, .int .i64 0, .int .i64 0, .int .i64 0, .int .i64 0, .int .i64 0, .int .i64 0, .int .i64 0, .int .i64 0, .int .i64 0, .int .i64 0, .int .i64 0, .int .i64 0, .int .i64 0, .int .i64 0] 64)).alloc (.cells (mC zero16) 64)).setRow (w.heap.size + 1) (mC (qtL 1)))).heap.size = w.heap.size + 1 + 1 := by simp
  have RQ0 : Hid (RowAt 64 (w.heap.size + 1) (mC zero16) ((w.alloc (.cells #[.int .i64 0, .int .i64 0, .int .i64 0, .int .i64 0, .int .i64 0, .int .i64 0, .int .i64 0, .int .i64 0, .int .i64 0, .int .i64 0, .int .i64 0, .int .i64 0, .int .i64 0, .int .i64 0, .int .i64 0, .int .i64 0] 64)).alloc (.cells (mC zero16) 64))) := Lib.hid (heap_alloc2_new _ _ _)
  have I0 : Hid (ZtI (qtL 1) (trn 1 0) w ((((w.alloc (.cells #[.int .i64 0, .int .i64 0, .int .i64 0, .int .i64 0, .int .i64 0, .int .i64 0, .int .i64 0, .int .i64 0, .int .i64 0, .int .i64 0, .int .i64 0, .int .i64 0, .int .i64 0, .int .i64 0, .int .i64 0, .int .i64 0] 64)).alloc (.cells (mC zero16) 64)).setRow (w.heap.size + 1) (mC (qtL 1))).alloc (.cells (mC idl) 64))) := Lib.hid ⟨RowAt.alloc (RowAt.other (RowAt.alloc (heap_alloc_new _ _) _) (by omega) _) _, RowAt.alloc (RQ0.out.row _) _, (by rw [trn_zero 1 (by omega), ← hsz]; exact heap_alloc_new _ _), Below.alloc (Below.row (by go_grown) (by omega) _) (by rw [hsz]; omega) _⟩
  clear hsz
  have hm := tmod4 hr hq
  have hb1 : -4 ≤ q.tmod 4 := by rcases hm with ⟨h1, h2⟩ | ⟨h1, h2⟩ <;> omega
  have hb2 : q.tmod 4 < 4 := by rcases hm with ⟨h1, h2⟩ | ⟨h1, h2⟩ <;> omega
  clear hq
  rcases hm with ⟨h1, h2⟩ | ⟨h1, h2⟩
  · go_enter Try.func43, Try.ntmps43
    go_wp2_with (first | (refine wpList_build_to rfl 64 #[] rfl (mC zero16) (by kernel_rfl) ?_) | (refine wpList_build_to rfl 64 #[(0, .tmp 45), (1, .tmp 47), (2, .tmp 50), (3, .tmp 52)] rfl (mC (qtL 1)) (by kernel_rfl) ?_) | (refine wpList_build_to rfl 64 #[(0, .tmp 55), (1, .tmp 57), (2, .tmp 59), (3, .tmp 61)] rfl (mC idl) (by kernel_rfl) ?_) | (refine wpList_store_new rfl 64 (.tmp 7) (.tmp 18) rfl (w.heap.size + 1) _ #[.int .i64 0, .int .i64 0, .int .i64 0, .int .i64 0, .int .i64 0, .int .i64 0, .int .i64 0, .int .i64 0, .int .i64 0, .int .i64 0, .int .i64 0, .int .i64 0, .int .i64 0, .int .i64 0, .int .i64 0, .int .i64 0] (mC zero16) rfl (by simp) rfl size16 rfl (mC_one _) ?_) | (refine wpList_store_big rfl 64 (.tmp 7) (.tmp 53) rfl (w.heap.size + 1) _ _ (mC (qtL 1)) rfl rfl RQ0.out size16 rfl (mC_one _) ?_) | (refine wpList_store_new rfl 64 (.tmp 8) (.tmp 62) rfl (w.heap.size + 1 + 1) _ #[.int .i64 0, .int .i64 0, .int .i64 0, .int .i64 0, .int .i64 0, .int .i64 0, .int .i64 0, .int .i64 0, .int .i64 0, .int .i64 0, .int .i64 0, .int .i64 0, .int .i64 0, .int .i64 0, .int .i64 0, .int .i64 0] (mC idl) rfl (by simp) rfl size16 rfl (mC_one _) ?_))
    generalize ((((w.alloc (.cells #[.int .i64 0, .int .i64 0, .int .i64 0, .int .i64 0, .int .i64 0, .int .i64 0, .int .i64 0, .int .i64 0, .int .i64 0, .int .i64 0, .int .i64 0, .int .i64 0, .int .i64 0, .int .i64 0, .int .i64 0, .int .i64 0] 64)).alloc (.cells (mC zero16) 64)).setRow (w.heap.size + 1) (mC (qtL 1))).alloc (.cells (mC idl) 64)) = V at I0 ⊢
    clear RQ0
    try rw [h2]
    clear h1 h2 hb1 hb2
    go_loopg [10] r (ZtRel 1 r w)
    case atStart => exact ⟨0, rfl, rfl, by omega, I0.out⟩
    case round =>
      clear I0
      obtain ⟨i, hg, rfl, hir, I⟩ := hrel
      have HI := Lib.hid I
      clear I
      subst hg
      by_cases hi : i < r
      · have i1 : (i : Int) < (r : Int) := by omega
        obtain ⟨M, hM⟩ : ∃ M, trn 1 i = M := ⟨_, rfl⟩
        obtain ⟨M2, hM2⟩ : ∃ M, trn 1 (i + 1) = M := ⟨_, rfl⟩
        have lM : M.length = 16 := by rw [← hM]; exact trn_len _ _
        have lM2 : M2.length = 16 := by rw [← hM2]; exact trn_len _ _
        have cM : Hid (Ans 34 #[.agg (mC (qtL 1)), .agg (mC M)] (.tuple #[.agg (mC M2), .int .i64 0])) := Lib.hid fun w => by
          have := zmmul_any (qtL 1) (trn 1 i) w rfl (trn_len _ _) (qt_bound 1 (by omega)) (trn_bound 1 i (by omega) (by omega))
          rw [qt_next 1 i (by omega) (by omega), hM, hM2] at this
          exact this
        have I1 : Hid (ZtI (qtL 1) M w wr) := Lib.hid (by rw [← hM]; exact HI.out)
        have RQ := Lib.hid I1.out.rq
        have RO := Lib.hid I1.out.ro
        have iM := Lib.hid (show (Try.prog.info? 64).map (·.size) = some (mC M).size by rw [size16, mC_size, lM])
        have iM2 := Lib.hid (show (Try.prog.info? 64).map (·.size) = some (mC M2).size by rw [size16, mC_size, lM2])
        have sM := Lib.hid (show (mC M).size = (mC M2).size by rw [mC_size, mC_size, lM, lM2])
        have HM2 := Lib.hid hM2
        clear hM hM2 lM lM2 HI
        go_wp2_with (first | (refine wpList_load_row rfl 64 (.tmp 7) rfl (w.heap.size + 1) rfl _ _ _ _ RQ.out Try.underlying64 rfl size16 ?_) | (refine wpList_load_row rfl 64 (.tmp 8) rfl (w.heap.size + 1 + 1) rfl _ _ _ _ RO.out Try.underlying64 rfl iM.out ?_))
        refine (cM.out _).mono ?_
        rintro e w3 ⟨rfl, hb3⟩
        have I3 := Lib.hid (I1.out.up hb3)
        have RO3 := Lib.hid I3.out.ro
        have I4 : Hid (ZtI (qtL 1) (trn 1 (i + 1)) w (w3.setRow (w.heap.size + 1 + 1) (mC M2))) := Lib.hid (by rw [HM2.out]; exact I3.out.put M2)
        clear hb3 I1 RQ RO cM I3
        go_wp2_with (refine wpList_store_big rfl 64 (.tmp 8) (.tmp 78) rfl (w.heap.size + 1 + 1) _ _ (mC M2) rfl rfl RO3.out iM2.out sM.out (mC_one _) ?_)
        go_roundg (r - (i + 1))
        case measure => omega
        case rel => exact ⟨i + 1, rfl, by go_num, by omega, I4.out⟩
      · obtain rfl : i = r := by omega
        have i1 : ¬ (i : Int) < (i : Int) := by omega
        obtain ⟨M, hM⟩ : ∃ M, trn 1 i = M := ⟨_, rfl⟩
        have lM : M.length = 16 := by rw [← hM]; exact trn_len _ _
        have I1 : Hid (ZtI (qtL 1) M w wr) := Lib.hid (by rw [← hM]; exact HI.out)
        have RO := Lib.hid I1.out.ro
        have RR := Lib.hid I1.out.rr
        have HB := Lib.hid I1.out.below
        have iM := Lib.hid (show (Try.prog.info? 64).map (·.size) = some (mC M).size by rw [size16, mC_size, lM])
        have sM := Lib.hid (show (mC zero16).size = (mC M).size by rw [mC_size, mC_size, lM]; rfl)
        have HM := Lib.hid hM
        clear hM lM HI I1
        go_wp2_with (first | (refine wpList_load_row rfl 64 (.tmp 8) rfl (w.heap.size + 1 + 1) rfl _ _ _ _ RO.out Try.underlying64 rfl iM.out ?_) | (refine wpList_store_big rfl 64 (.tmp 4) (.tmp 80) rfl (w.heap.size) _ _ (mC M) rfl rfl RR.out iM.out sM.out (mC_one _) ?_))
        exact bodyPost_ret (v := .tuple #[.agg (mC M), .int .i64 0]) (results_row2 rfl _ _ w.heap.size _ (mC M) _ _ (.int .i64 0) rfl rfl (RR.out.row _) Try.underlying64 rfl iM.out) rfl ⟨by rw [HM.out], Below.row HB.out (Nat.le_refl _) _⟩
  · go_enter Try.func43, Try.ntmps43
    go_wp2_with (first | (refine wpList_build_to rfl 64 #[] rfl (mC zero16) (by kernel_rfl) ?_) | (refine wpList_build_to rfl 64 #[(0, .tmp 45), (1, .tmp 47), (2, .tmp 50), (3, .tmp 52)] rfl (mC (qtL 1)) (by kernel_rfl) ?_) | (refine wpList_build_to rfl 64 #[(0, .tmp 55), (1, .tmp 57), (2, .tmp 59), (3, .tmp 61)] rfl (mC idl) (by kernel_rfl) ?_) | (refine wpList_store_new rfl 64 (.tmp 7) (.tmp 18) rfl (w.heap.size + 1) _ #[.int .i64 0, .int .i64 0, .int .i64 0, .int .i64 0, .int .i64 0, .int .i64 0, .int .i64 0, .int .i64 0, .int .i64 0, .int .i64 0, .int .i64 0, .int .i64 0, .int .i64 0, .int .i64 0, .int .i64 0, .int .i64 0] (mC zero16) rfl (by simp) rfl size16 rfl (mC_one _) ?_) | (refine wpList_store_big rfl 64 (.tmp 7) (.tmp 53) rfl (w.heap.size + 1) _ _ (mC (qtL 1)) rfl rfl RQ0.out size16 rfl (mC_one _) ?_) | (refine wpList_store_new rfl 64 (.tmp 8) (.tmp 62) rfl (w.heap.size + 1 + 1) _ #[.int .i64 0, .int .i64 0, .int .i64 0, .int .i64 0, .int .i64 0, .int .i64 0, .int .i64 0, .int .i64 0, .int .i64 0, .int .i64 0, .int .i64 0, .int .i64 0, .int .i64 0, .int .i64 0, .int .i64 0, .int .i64 0] (mC idl) rfl (by simp) rfl size16 rfl (mC_one _) ?_))
    generalize ((((w.alloc (.cells #[.int .i64 0, .int .i64 0, .int .i64 0, .int .i64 0, .int .i64 0, .int .i64 0, .int .i64 0, .int .i64 0, .int .i64 0, .int .i64 0, .int .i64 0, .int .i64 0, .int .i64 0, .int .i64 0, .int .i64 0, .int .i64 0] 64)).alloc (.cells (mC zero16) 64)).setRow (w.heap.size + 1) (mC (qtL 1))).alloc (.cells (mC idl) 64)) = V at I0 ⊢
    clear RQ0
    try rw [h2]
    clear h1 h2 hb1 hb2
    go_loopg [10] r (ZtRel 1 r w)
    case atStart => exact ⟨0, rfl, rfl, by omega, I0.out⟩
    case round =>
      clear I0
      obtain ⟨i, hg, rfl, hir, I⟩ := hrel
      have HI := Lib.hid I
      clear I
      subst hg
      by_cases hi : i < r
      · have i1 : (i : Int) < (r : Int) := by omega
        obtain ⟨M, hM⟩ : ∃ M, trn 1 i = M := ⟨_, rfl⟩
        obtain ⟨M2, hM2⟩ : ∃ M, trn 1 (i + 1) = M := ⟨_, rfl⟩
        have lM : M.length = 16 := by rw [← hM]; exact trn_len _ _
        have lM2 : M2.length = 16 := by rw [← hM2]; exact trn_len _ _
        have cM : Hid (Ans 34 #[.agg (mC (qtL 1)), .agg (mC M)] (.tuple #[.agg (mC M2), .int .i64 0])) := Lib.hid fun w => by
          have := zmmul_any (qtL 1) (trn 1 i) w rfl (trn_len _ _) (qt_bound 1 (by omega)) (trn_bound 1 i (by omega) (by omega))
          rw [qt_next 1 i (by omega) (by omega), hM, hM2] at this
          exact this
        have I1 : Hid (ZtI (qtL 1) M w wr) := Lib.hid (by rw [← hM]; exact HI.out)
        have RQ := Lib.hid I1.out.rq
        have RO := Lib.hid I1.out.ro
        have iM := Lib.hid (show (Try.prog.info? 64).map (·.size) = some (mC M).size by rw [size16, mC_size, lM])
        have iM2 := Lib.hid (show (Try.prog.info? 64).map (·.size) = some (mC M2).size by rw [size16, mC_size, lM2])
        have sM := Lib.hid (show (mC M).size = (mC M2).size by rw [mC_size, mC_size, lM, lM2])
        have HM2 := Lib.hid hM2
        clear hM hM2 lM lM2 HI
        go_wp2_with (first | (refine wpList_load_row rfl 64 (.tmp 7) rfl (w.heap.size + 1) rfl _ _ _ _ RQ.out Try.underlying64 rfl size16 ?_) | (refine wpList_load_row rfl 64 (.tmp 8) rfl (w.heap.size + 1 + 1) rfl _ _ _ _ RO.out Try.underlying64 rfl iM.out ?_))
        refine (cM.out _).mono ?_
        rintro e w3 ⟨rfl, hb3⟩
        have I3 := Lib.hid (I1.out.up hb3)
        have RO3 := Lib.hid I3.out.ro
        have I4 : Hid (ZtI (qtL 1) (trn 1 (i + 1)) w (w3.setRow (w.heap.size + 1 + 1) (mC M2))) := Lib.hid (by rw [HM2.out]; exact I3.out.put M2)
        clear hb3 I1 RQ RO cM I3
        go_wp2_with (refine wpList_store_big rfl 64 (.tmp 8) (.tmp 78) rfl (w.heap.size + 1 + 1) _ _ (mC M2) rfl rfl RO3.out iM2.out sM.out (mC_one _) ?_)
        go_roundg (r - (i + 1))
        case measure => omega
        case rel => exact ⟨i + 1, rfl, by go_num, by omega, I4.out⟩
      · obtain rfl : i = r := by omega
        have i1 : ¬ (i : Int) < (i : Int) := by omega
        obtain ⟨M, hM⟩ : ∃ M, trn 1 i = M := ⟨_, rfl⟩
        have lM : M.length = 16 := by rw [← hM]; exact trn_len _ _
        have I1 : Hid (ZtI (qtL 1) M w wr) := Lib.hid (by rw [← hM]; exact HI.out)
        have RO := Lib.hid I1.out.ro
        have RR := Lib.hid I1.out.rr
        have HB := Lib.hid I1.out.below
        have iM := Lib.hid (show (Try.prog.info? 64).map (·.size) = some (mC M).size by rw [size16, mC_size, lM])
        have sM := Lib.hid (show (mC zero16).size = (mC M).size by rw [mC_size, mC_size, lM]; rfl)
        have HM := Lib.hid hM
        clear hM lM HI I1
        go_wp2_with (first | (refine wpList_load_row rfl 64 (.tmp 8) rfl (w.heap.size + 1 + 1) rfl _ _ _ _ RO.out Try.underlying64 rfl iM.out ?_) | (refine wpList_store_big rfl 64 (.tmp 4) (.tmp 80) rfl (w.heap.size) _ _ (mC M) rfl rfl RR.out iM.out sM.out (mC_one _) ?_))
        exact bodyPost_ret (v := .tuple #[.agg (mC M), .int .i64 0]) (results_row2 rfl _ _ w.heap.size _ (mC M) _ _ (.int .i64 0) rfl rfl (RR.out.row _) Try.underlying64 rfl iM.out) rfl ⟨by rw [HM.out], Below.row HB.out (Nat.le_refl _) _⟩
set_option maxRecDepth 100000 in
set_option maxHeartbeats 8000000 in
theorem zturn_ax2 (q : Int) (r : Nat) (hr : r < 4) (hq : q % 4 = (r : Int)) (w : World) : Calls Try.prog 43 #[.int .i64 2, .int .i64 q] w fun e w' => e = .returned (.tuple #[.agg (mC (trn 2 r)), .int .i64 0]) ∧ Below w.heap.size w w' := by
  have hsz : ((((w.alloc (.cells #[.int .i64 0, .int .i64 0, .int .i64 0, .int .i64 0, .int .i64 0, .int .i64 0, .int .i64 0, .int .i64 0, .int .i64 0, .int .i64 0, .int .i64 0, .int .i64 0, .int .i64 0, .int .i64 0, .int .i64 0, .int .i64 0] 64)).alloc (.cells (mC zero16) 64)).setRow (w.heap.size + 1) (mC (qtL 2)))).heap.size = w.heap.size + 1 + 1 := by simp
  have RQ0 : Hid (RowAt 64 (w.heap.size + 1) (mC zero16) ((w.alloc (.cells #[.int .i64 0, .int .i64 0, .int .i64 0, .int .i64 0, .int .i64 0, .int .i64 0, .int .i64 0, .int .i64 0, .int .i64 0, .int .i64 0, .int .i64 0, .int .i64 0, .int .i64 0, .int .i64 0, .int .i64 0, .int .i64 0] 64)).alloc (.cells (mC zero16) 64))) := Lib.hid (heap_alloc2_new _ _ _)
  have I0 : Hid (ZtI (qtL 2) (trn 2 0) w ((((w.alloc (.cells #[.int .i64 0, .int .i64 0, .int .i64 0, .int .i64 0, .int .i64 0, .int .i64 0, .int .i64 0, .int .i64 0, .int .i64 0, .int .i64 0, .int .i64 0, .int .i64 0, .int .i64 0, .int .i64 0, .int .i64 0, .int .i64 0] 64)).alloc (.cells (mC zero16) 64)).setRow (w.heap.size + 1) (mC (qtL 2))).alloc (.cells (mC idl) 64))) := Lib.hid ⟨RowAt.alloc (RowAt.other (RowAt.alloc (heap_alloc_new _ _) _) (by omega) _) _, RowAt.alloc (RQ0.out.row _) _, (by rw [trn_zero 2 (by omega), ← hsz]; exact heap_alloc_new _ _), Below.alloc (Below.row (by go_grown) (by omega) _) (by rw [hsz]; omega) _⟩
  clear hsz
  have hm := tmod4 hr hq
  have hb1 : -4 ≤ q.tmod 4 := by rcases hm with ⟨h1, h2⟩ | ⟨h1, h2⟩ <;> omega
  have hb2 : q.tmod 4 < 4 := by rcases hm with ⟨h1, h2⟩ | ⟨h1, h2⟩ <;> omega
  clear hq
  rcases hm with ⟨h1, h2⟩ | ⟨h1, h2⟩
  · go_enter Try.func43, Try.ntmps43
    go_wp2_with (first | (refine wpList_build_to rfl 64 #[] rfl (mC zero16) (by kernel_rfl) ?_) | (refine wpList_build_to rfl 64 #[(0, .tmp 22), (1, .tmp 24), (2, .tmp 26), (3, .tmp 28)] rfl (mC (qtL 2)) (by kernel_rfl) ?_) | (refine wpList_build_to rfl 64 #[(0, .tmp 55), (1, .tmp 57), (2, .tmp 59), (3, .tmp 61)] rfl (mC idl) (by kernel_rfl) ?_) | (refine wpList_store_new rfl 64 (.tmp 7) (.tmp 18) rfl (w.heap.size + 1) _ #[.int .i64 0, .int .i64 0, .int .i64 0, .int .i64 0, .int .i64 0, .int .i64 0, .int .i64 0, .int .i64 0, .int .i64 0, .int .i64 0, .int .i64 0, .int .i64 0, .int .i64 0, .int .i64 0, .int .i64 0, .int .i64 0] (mC zero16) rfl (by simp) rfl size16 rfl (mC_one _) ?_) | (refine wpList_store_big rfl 64 (.tmp 7) (.tmp 29) rfl (w.heap.size + 1) _ _ (mC (qtL 2)) rfl rfl RQ0.out size16 rfl (mC_one _) ?_) | (refine wpList_store_new rfl 64 (.tmp 8) (.tmp 62) rfl (w.heap.size + 1 + 1) _ #[.int .i64 0, .int .i64 0, .int .i64 0, .int .i64 0, .int .i64 0, .int .i64 0, .int .i64 0, .int .i64 0, .int .i64 0, .int .i64 0, .int .i64 0, .int .i64 0, .int .i64 0, .int .i64 0, .int .i64 0, .int .i64 0] (mC idl) rfl (by simp) rfl size16 rfl (mC_one _) ?_))
    generalize ((((w.alloc (.cells #[.int .i64 0, .int .i64 0, .int .i64 0, .int .i64 0, .int .i64 0, .int .i64 0, .int .i64 0, .int .i64 0, .int .i64 0, .int .i64 0, .int .i64 0, .int .i64 0, .int .i64 0, .int .i64 0, .int .i64 0, .int .i64 0] 64)).alloc (.cells (mC zero16) 64)).setRow (w.heap.size + 1) (mC (qtL 2))).alloc (.cells (mC idl) 64)) = V at I0 ⊢
    clear RQ0
    try rw [h2]
    clear h1 h2 hb1 hb2
    go_loopg [10] r (ZtRel 2 r w)
    case atStart => exact ⟨0, rfl, rfl, by omega, I0.out⟩
    case round =>
      clear I0
      obtain ⟨i, hg, rfl, hir, I⟩ := hrel
      have HI := Lib.hid I
      clear I
      subst hg
      by_cases hi : i < r
      · have i1 : (i : Int) < (r : Int) := by omega
        obtain ⟨M, hM⟩ : ∃ M, trn 2 i = M := ⟨_, rfl⟩
        obtain ⟨M2, hM2⟩ : ∃ M, trn 2 (i + 1) = M := ⟨_, rfl⟩
        have lM : M.length = 16 := by rw [← hM]; exact trn_len _ _
        have lM2 : M2.length = 16 := by rw [← hM2]; exact trn_len _ _
        have cM : Hid (Ans 34 #[.agg (mC (qtL 2)), .agg (mC M)] (.tuple #[.agg (mC M2), .int .i64 0])) := Lib.hid fun w => by
          have := zmmul_any (qtL 2) (trn 2 i) w rfl (trn_len _ _) (qt_bound 2 (by omega)) (trn_bound 2 i (by omega) (by omega))
          rw [qt_next 2 i (by omega) (by omega), hM, hM2] at this
          exact this
        have I1 : Hid (ZtI (qtL 2) M w wr) := Lib.hid (by rw [← hM]; exact HI.out)
        have RQ := Lib.hid I1.out.rq
        have RO := Lib.hid I1.out.ro
        have iM := Lib.hid (show (Try.prog.info? 64).map (·.size) = some (mC M).size by rw [size16, mC_size, lM])
        have iM2 := Lib.hid (show (Try.prog.info? 64).map (·.size) = some (mC M2).size by rw [size16, mC_size, lM2])
        have sM := Lib.hid (show (mC M).size = (mC M2).size by rw [mC_size, mC_size, lM, lM2])
        have HM2 := Lib.hid hM2
        clear hM hM2 lM lM2 HI
        go_wp2_with (first | (refine wpList_load_row rfl 64 (.tmp 7) rfl (w.heap.size + 1) rfl _ _ _ _ RQ.out Try.underlying64 rfl size16 ?_) | (refine wpList_load_row rfl 64 (.tmp 8) rfl (w.heap.size + 1 + 1) rfl _ _ _ _ RO.out Try.underlying64 rfl iM.out ?_))
        refine (cM.out _).mono ?_
        rintro e w3 ⟨rfl, hb3⟩
        have I3 := Lib.hid (I1.out.up hb3)
        have RO3 := Lib.hid I3.out.ro
        have I4 : Hid (ZtI (qtL 2) (trn 2 (i + 1)) w (w3.setRow (w.heap.size + 1 + 1) (mC M2))) := Lib.hid (by rw [HM2.out]; exact I3.out.put M2)
        clear hb3 I1 RQ RO cM I3
        go_wp2_with (refine wpList_store_big rfl 64 (.tmp 8) (.tmp 78) rfl (w.heap.size + 1 + 1) _ _ (mC M2) rfl rfl RO3.out iM2.out sM.out (mC_one _) ?_)
        go_roundg (r - (i + 1))
        case measure => omega
        case rel => exact ⟨i + 1, rfl, by go_num, by omega, I4.out⟩
      · obtain rfl : i = r := by omega
        have i1 : ¬ (i : Int) < (i : Int) := by omega
        obtain ⟨M, hM⟩ : ∃ M, trn 2 i = M := ⟨_, rfl⟩
        have lM : M.length = 16 := by rw [← hM]; exact trn_len _ _
        have I1 : Hid (ZtI (qtL 2) M w wr) := Lib.hid (by rw [← hM]; exact HI.out)
        have RO := Lib.hid I1.out.ro
        have RR := Lib.hid I1.out.rr
        have HB := Lib.hid I1.out.below
        have iM := Lib.hid (show (Try.prog.info? 64).map (·.size) = some (mC M).size by rw [size16, mC_size, lM])
        have sM := Lib.hid (show (mC zero16).size = (mC M).size by rw [mC_size, mC_size, lM]; rfl)
        have HM := Lib.hid hM
        clear hM lM HI I1
        go_wp2_with (first | (refine wpList_load_row rfl 64 (.tmp 8) rfl (w.heap.size + 1 + 1) rfl _ _ _ _ RO.out Try.underlying64 rfl iM.out ?_) | (refine wpList_store_big rfl 64 (.tmp 4) (.tmp 80) rfl (w.heap.size) _ _ (mC M) rfl rfl RR.out iM.out sM.out (mC_one _) ?_))
        exact bodyPost_ret (v := .tuple #[.agg (mC M), .int .i64 0]) (results_row2 rfl _ _ w.heap.size _ (mC M) _ _ (.int .i64 0) rfl rfl (RR.out.row _) Try.underlying64 rfl iM.out) rfl ⟨by rw [HM.out], Below.row HB.out (Nat.le_refl _) _⟩
  · go_enter Try.func43, Try.ntmps43
    go_wp2_with (first | (refine wpList_build_to rfl 64 #[] rfl (mC zero16) (by kernel_rfl) ?_) | (refine wpList_build_to rfl 64 #[(0, .tmp 22), (1, .tmp 24), (2, .tmp 26), (3, .tmp 28)] rfl (mC (qtL 2)) (by kernel_rfl) ?_) | (refine wpList_build_to rfl 64 #[(0, .tmp 55), (1, .tmp 57), (2, .tmp 59), (3, .tmp 61)] rfl (mC idl) (by kernel_rfl) ?_) | (refine wpList_store_new rfl 64 (.tmp 7) (.tmp 18) rfl (w.heap.size + 1) _ #[.int .i64 0, .int .i64 0, .int .i64 0, .int .i64 0, .int .i64 0, .int .i64 0, .int .i64 0, .int .i64 0, .int .i64 0, .int .i64 0, .int .i64 0, .int .i64 0, .int .i64 0, .int .i64 0, .int .i64 0, .int .i64 0] (mC zero16) rfl (by simp) rfl size16 rfl (mC_one _) ?_) | (refine wpList_store_big rfl 64 (.tmp 7) (.tmp 29) rfl (w.heap.size + 1) _ _ (mC (qtL 2)) rfl rfl RQ0.out size16 rfl (mC_one _) ?_) | (refine wpList_store_new rfl 64 (.tmp 8) (.tmp 62) rfl (w.heap.size + 1 + 1) _ #[.int .i64 0, .int .i64 0, .int .i64 0, .int .i64 0, .int .i64 0, .int .i64 0, .int .i64 0, .int .i64 0, .int .i64 0, .int .i64 0, .int .i64 0, .int .i64 0, .int .i64 0, .int .i64 0, .int .i64 0, .int .i64 0] (mC idl) rfl (by simp) rfl size16 rfl (mC_one _) ?_))
    generalize ((((w.alloc (.cells #[.int .i64 0, .int .i64 0, .int .i64 0, .int .i64 0, .int .i64 0, .int .i64 0, .int .i64 0, .int .i64 0, .int .i64 0, .int .i64 0, .int .i64 0, .int .i64 0, .int .i64 0, .int .i64 0, .int .i64 0, .int .i64 0] 64)).alloc (.cells (mC zero16) 64)).setRow (w.heap.size + 1) (mC (qtL 2))).alloc (.cells (mC idl) 64)) = V at I0 ⊢
    clear RQ0
    try rw [h2]
    clear h1 h2 hb1 hb2
    go_loopg [10] r (ZtRel 2 r w)
    case atStart => exact ⟨0, rfl, rfl, by omega, I0.out⟩
    case round =>
      clear I0
      obtain ⟨i, hg, rfl, hir, I⟩ := hrel
      have HI := Lib.hid I
      clear I
      subst hg
      by_cases hi : i < r
      · have i1 : (i : Int) < (r : Int) := by omega
        obtain ⟨M, hM⟩ : ∃ M, trn 2 i = M := ⟨_, rfl⟩
        obtain ⟨M2, hM2⟩ : ∃ M, trn 2 (i + 1) = M := ⟨_, rfl⟩
        have lM : M.length = 16 := by rw [← hM]; exact trn_len _ _
        have lM2 : M2.length = 16 := by rw [← hM2]; exact trn_len _ _
        have cM : Hid (Ans 34 #[.agg (mC (qtL 2)), .agg (mC M)] (.tuple #[.agg (mC M2), .int .i64 0])) := Lib.hid fun w => by
          have := zmmul_any (qtL 2) (trn 2 i) w rfl (trn_len _ _) (qt_bound 2 (by omega)) (trn_bound 2 i (by omega) (by omega))
          rw [qt_next 2 i (by omega) (by omega), hM, hM2] at this
          exact this
        have I1 : Hid (ZtI (qtL 2) M w wr) := Lib.hid (by rw [← hM]; exact HI.out)
        have RQ := Lib.hid I1.out.rq
        have RO := Lib.hid I1.out.ro
        have iM := Lib.hid (show (Try.prog.info? 64).map (·.size) = some (mC M).size by rw [size16, mC_size, lM])
        have iM2 := Lib.hid (show (Try.prog.info? 64).map (·.size) = some (mC M2).size by rw [size16, mC_size, lM2])
        have sM := Lib.hid (show (mC M).size = (mC M2).size by rw [mC_size, mC_size, lM, lM2])
        have HM2 := Lib.hid hM2
        clear hM hM2 lM lM2 HI
        go_wp2_with (first | (refine wpList_load_row rfl 64 (.tmp 7) rfl (w.heap.size + 1) rfl _ _ _ _ RQ.out Try.underlying64 rfl size16 ?_) | (refine wpList_load_row rfl 64 (.tmp 8) rfl (w.heap.size + 1 + 1) rfl _ _ _ _ RO.out Try.underlying64 rfl iM.out ?_))
        refine (cM.out _).mono ?_
        rintro e w3 ⟨rfl, hb3⟩
        have I3 := Lib.hid (I1.out.up hb3)
        have RO3 := Lib.hid I3.out.ro
        have I4 : Hid (ZtI (qtL 2) (trn 2 (i + 1)) w (w3.setRow (w.heap.size + 1 + 1) (mC M2))) := Lib.hid (by rw [HM2.out]; exact I3.out.put M2)
        clear hb3 I1 RQ RO cM I3
        go_wp2_with (refine wpList_store_big rfl 64 (.tmp 8) (.tmp 78) rfl (w.heap.size + 1 + 1) _ _ (mC M2) rfl rfl RO3.out iM2.out sM.out (mC_one _) ?_)
        go_roundg (r - (i + 1))
        case measure => omega
        case rel => exact ⟨i + 1, rfl, by go_num, by omega, I4.out⟩
      · obtain rfl : i = r := by omega
        have i1 : ¬ (i : Int) < (i : Int) := by omega
        obtain ⟨M, hM⟩ : ∃ M, trn 2 i = M := ⟨_, rfl⟩
        have lM : M.length = 16 := by rw [← hM]; exact trn_len _ _
        have I1 : Hid (ZtI (qtL 2) M w wr) := Lib.hid (by rw [← hM]; exact HI.out)
        have RO := Lib.hid I1.out.ro
        have RR := Lib.hid I1.out.rr
        have HB := Lib.hid I1.out.below
        have iM := Lib.hid (show (Try.prog.info? 64).map (·.size) = some (mC M).size by rw [size16, mC_size, lM])
        have sM := Lib.hid (show (mC zero16).size = (mC M).size by rw [mC_size, mC_size, lM]; rfl)
        have HM := Lib.hid hM
        clear hM lM HI I1
        go_wp2_with (first | (refine wpList_load_row rfl 64 (.tmp 8) rfl (w.heap.size + 1 + 1) rfl _ _ _ _ RO.out Try.underlying64 rfl iM.out ?_) | (refine wpList_store_big rfl 64 (.tmp 4) (.tmp 80) rfl (w.heap.size) _ _ (mC M) rfl rfl RR.out iM.out sM.out (mC_one _) ?_))
        exact bodyPost_ret (v := .tuple #[.agg (mC M), .int .i64 0]) (results_row2 rfl _ _ w.heap.size _ (mC M) _ _ (.int .i64 0) rfl rfl (RR.out.row _) Try.underlying64 rfl iM.out) rfl ⟨by rw [HM.out], Below.row HB.out (Nat.le_refl _) _⟩
theorem zturn_any (a : Nat) (q : Int) (r : Nat) (ha : a < 3) (hr : r < 4) (hq : q % 4 = (r : Int)) (w : World) : Calls Try.prog 43 #[.int .i64 (a : Int), .int .i64 q] w fun e w' => e = .returned (.tuple #[.agg (mC (trn a r)), .int .i64 0]) ∧ Below w.heap.size w w' := by
  have hd : a = 0 ∨ a = 1 ∨ a = 2 := by omega
  rcases hd with rfl | rfl | rfl
  · exact zturn_ax0 q r hr hq w
  · exact zturn_ax1 q r hr hq w
  · exact zturn_ax2 q r hr hq w
end Go.Proofs.Ytgkcbadfjhicnaa.Fx
