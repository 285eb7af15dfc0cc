/- The chapter's scene, as the statements make it: walked. -/
import Derived.Test.YtbkahmnchpbhfaaDoorProg
import Derived.Test.YtbkahmnchpbhfaaDoorVh
import Derived.Test.YtbkahmnchpbhfaaDoorHg
import Derived.Laws.MakeOwn
set_option linter.unusedVariables false
set_option linter.unusedSimpArgs false
namespace Go.Proofs.YtbkahmnchpbhfaaDoor.Fx
open Go Go.RowKit Go.Shelf
def obj0 (bV bT : Nat) : ObjR := ⟨7, idl, some ⟨bV, 0, none⟩, [[0, 0, 0], [0, 0, 0], [0, 0, 0]], 3, some ⟨bT, 0, none⟩, [⟨0, 1, 2, 0⟩], 1⟩
def some0 (bV bT bO : Nat) : ScR := ⟨4, 3, idl, some ⟨bO, 0, none⟩, [obj0 bV bT], 1⟩
structure SomeAt (bV bT bO : Nat) (W : World) : Prop where
  vs : RowAt 45 bV #[.int .i64 0, .int .i64 0, .int .i64 0, .int .i64 0, .int .i64 0, .int .i64 0, .int .i64 0, .int .i64 0, .int .i64 0] W
  ts : RowAt 39 bT #[.int .i64 0, .int .i64 1, .int .i64 2, .int .u32 0] W
  os : RowAt 43 bO (objL (obj0 bV bT)).toArray W
def RetSome (w : World) (e : Ending) (w' : World) : Prop := ∃ bV bT bO, e = .returned (.agg (scC (some0 bV bT bO))) ∧ SomeAt bV bT bO w' ∧ w.heap.size ≤ bV ∧ w.heap.size ≤ bT ∧ w.heap.size ≤ bO ∧ Below w.heap.size w w'
theorem make9 (w : World) : (Instr.makeSlice 40 (.int .i64 3) (.int .i64 3)).run Tryd.prog w = .ok (.slice (some ⟨w.heap.size, 0, none⟩) 3 3) (w.alloc (.cells #[.int .i64 0, .int .i64 0, .int .i64 0, .int .i64 0, .int .i64 0, .int .i64 0, .int .i64 0, .int .i64 0, .int .i64 0] 45)) := by
  have hm : (Tryd.prog.info? 45).map (fun i => (i.zero, i.size, i.bytes)) = some (some (.agg #[.int .i64 0, .int .i64 0, .int .i64 0]), 3, 24) := by kernel_rfl
  cases hi : Tryd.prog.info? 45 with
  | none => rw [hi] at hm; cases hm
  | some i =>
    rw [hi] at hm
    simp only [Option.map_some, Option.some.injEq, Prod.mk.injEq] at hm
    obtain ⟨hz, hs, hb⟩ := hm
    have := run_make w 40 45 i _ Tryd.underlying40 hi hz .i64 .i64 3 3 (by omega) (by omega) (by rw [hb]; omega) (by omega)
    rw [hs] at this
    exact this.trans (by kernel_rfl)
set_option maxRecDepth 100000 in
set_option maxHeartbeats 4000000 in
theorem some_any (w : World) : Calls Tryd.prog 12 #[] w (RetSome w) := by
  have HI := Lib.hid (identity_any (w.alloc (.cells #[.int .i64 0, .int .i64 0, .int .i64 0, .int .i64 0, .int .i64 0, .int .i64 0, .int .i64 0, .int .i64 0, .int .i64 0, .int .i64 0, .int .i64 0, .int .i64 0, .int .i64 0, .int .i64 0, .int .i64 0, .int .i64 0, .int .i64 0, .int .i64 0, .slice none 0 0] 28)))
  go_enter Tryd.func12, Tryd.ntmps12
  go_wp2_with fail
  refine HI.out.mono ?_
  rintro e w1 ⟨rfl, hb⟩
  have HRS : Hid (RowAt 28 w.heap.size #[.int .i64 0, .int .i64 0, .int .i64 0, .int .i64 0, .int .i64 0, .int .i64 0, .int .i64 0, .int .i64 0, .int .i64 0, .int .i64 0, .int .i64 0, .int .i64 0, .int .i64 0, .int .i64 0, .int .i64 0, .int .i64 0, .int .i64 0, .int .i64 0, .slice none 0 0] (w1.alloc (.cells (mC idl) 25))) := Lib.hid ((RowAt.below hb (RowAt.new w 28 #[.int .i64 0, .int .i64 0, .int .i64 0, .int .i64 0, .int .i64 0, .int .i64 0, .int .i64 0, .int .i64 0, .int .i64 0, .int .i64 0, .int .i64 0, .int .i64 0, .int .i64 0, .int .i64 0, .int .i64 0, .int .i64 0, .int .i64 0, .int .i64 0, .slice none 0 0])).alloc _)
  have HRM : Hid (RowAt 25 w1.heap.size (mC idl) (w1.alloc (.cells (mC idl) 25))) := Lib.hid (RowAt.new _ _ _)
  have HB1 : Hid (Below w.heap.size w (w1.alloc (.cells (mC idl) 25))) := Lib.hid (by
    have h0 : Below w.heap.size w w1 := ((Below.refl _ w).alloc (Nat.le_refl _) _).trans (hb.mono (by simp))
    exact h0.alloc h0.size _)
  clear hb HI
  go_wp2_with (refine wpList_store_new rfl 25 (.tmp 1) (.tmp 2) rfl w1.heap.size _ _ (mC idl) rfl rfl rfl size16 rfl (mC_one _) ?_)
  obtain ⟨V, hV⟩ : ∃ V, w1.alloc (.cells (mC idl) 25) = V := ⟨_, rfl⟩
  rw [hV] at HRS HRM HB1 ⊢
  clear hV
  generalize w1.heap.size = b1 at HRM ⊢
  rename_i K5 hK5
  refine (wpIn_wide (n := 5)).1 (give_region (S := fun X => Below V.heap.size V X) (Z := [8]) (by kernel_rfl) (by kernel_rfl) below_mono (fun d _ _ _ _ h => by cases d <;> exact h) (bdrew0 _ _ 1) (fun hG vw0 hw0 => ?_))
  refine grow_pure [8] 0 (.agg #[.int .i64 65536, .int .i64 0, .int .i64 0, .int .i64 0, .int .i64 0, .int .i64 65536, .int .i64 0, .int .i64 0, .int .i64 0, .int .i64 0, .int .i64 65536, .int .i64 0, .int .i64 0, .int .i64 0, .int .i64 0, .int .i64 65536]) hG rfl (by kernel_rfl) hw0 (by kernel_rfl) ?_ ?_
  · intro wz hSw; exact exec_load_row 25 (.tmp 1) (by kernel_rfl) (b1) (by kernel_rfl) _ (mC idl) _ _ (RowAt.below hSw HRM.out) Tryd.underlying25 (by kernel_rfl) size16
  intro vw1 hw1 hbn
  clear hbn hw0 vw0
  (try simp only [Act.put, List.getElem_toArray, List.getElem_cons_zero, List.getElem_cons_succ, List.setIfInBounds_toArray, List.set_cons_zero, List.set_cons_succ])
  refine grow_pure [8] 1 (.agg #[.int .i64 65536, .int .i64 0, .int .i64 0, .int .i64 0, .int .i64 0, .int .i64 65536, .int .i64 0, .int .i64 0, .int .i64 0, .int .i64 0, .int .i64 65536, .int .i64 0, .int .i64 0, .int .i64 0, .int .i64 0, .int .i64 65536]) hG rfl (by kernel_rfl) hw1 (by kernel_rfl) ?_ ?_
  · intro wz hSw; exact exec_load_row 25 (.tmp 1) (by kernel_rfl) (b1) (by kernel_rfl) _ (mC idl) _ _ (RowAt.below hSw HRM.out) Tryd.underlying25 (by kernel_rfl) size16
  intro vw2 hw2 hbn
  clear hbn hw1 vw1
  (try simp only [Act.put, List.getElem_toArray, List.getElem_cons_zero, List.getElem_cons_succ, List.setIfInBounds_toArray, List.set_cons_zero, List.set_cons_succ])
  refine grow_pure [8] 3 (.agg #[.int .i64 0, .int .i64 1, .int .i64 2, .int .u32 0]) hG rfl (by kernel_rfl) hw2 (by kernel_rfl) ?_ ?_
  · intro wz hSw; (first | (go_simp; done) | (go_simp; with_reducible rfl))
  intro vw3 hw3 hbn
  clear hbn hw2 vw2
  (try simp only [Act.put, List.getElem_toArray, List.getElem_cons_zero, List.getElem_cons_succ, List.setIfInBounds_toArray, List.set_cons_zero, List.set_cons_succ])
  refine give_step2 2 4 (by kernel_rfl) rfl rfl (fun K hK => ?_) (fun K hK => ?_)
  · go_simp
    rw [make9]
    go_simp
    obtain ⟨bV, hbV⟩ : ∃ b, vw3.heap.size = b := ⟨_, rfl⟩
    have gbV : V.heap.size ≤ bV := by rw [← hbV]; exact hw3.size
    rw [hbV]
    have hw40 : Below V.heap.size V (vw3.alloc (.cells #[.int .i64 0, .int .i64 0, .int .i64 0, .int .i64 0, .int .i64 0, .int .i64 0, .int .i64 0, .int .i64 0, .int .i64 0] 45)) := Below.alloc hw3 (by have := hw3.size; omega) _
    have TV := (show RowAt 45 bV #[.int .i64 0, .int .i64 0, .int .i64 0, .int .i64 0, .int .i64 0, .int .i64 0, .int .i64 0, .int .i64 0, .int .i64 0] (vw3.alloc (.cells #[.int .i64 0, .int .i64 0, .int .i64 0, .int .i64 0, .int .i64 0, .int .i64 0, .int .i64 0, .int .i64 0, .int .i64 0] 45)) by rw [← hbV]; exact RowAt.new _ _ _)
    refine hK.out _ _ (fun _ => hw40) (fun vw4 hbn => ?_)
    have hw4 := below_mono _ _ hw40 hbn
    have RV := RowAt.below hbn TV
    clear TV
    clear hbn hK K hw3 hw40
    (try simp only [Act.put, List.getElem_toArray, List.getElem_cons_zero, List.getElem_cons_succ, List.setIfInBounds_toArray, List.set_cons_zero, List.set_cons_succ])
    clear hbV
    refine give_step 4 (by kernel_rfl) rfl (fun K hK => ?_)
    go_simp
    obtain ⟨bT, hbT⟩ : ∃ b, vw4.heap.size = b := ⟨_, rfl⟩
    have gbT : V.heap.size ≤ bT := by rw [← hbT]; exact hw4.size
    have nT_V : bV ≠ bT := by have := RV.lt; omega
    rw [hbT]
    have hw50 : Below V.heap.size V (vw4.alloc (.cells #[.int .i64 0, .int .i64 1, .int .i64 2, .int .u32 0] 39)) := Below.alloc hw4 (by have := hw4.size; omega) _
    have TV := RowAt.alloc RV (.cells #[.int .i64 0, .int .i64 1, .int .i64 2, .int .u32 0] 39)
    have TT := (show RowAt 39 bT #[.int .i64 0, .int .i64 1, .int .i64 2, .int .u32 0] (vw4.alloc (.cells #[.int .i64 0, .int .i64 1, .int .i64 2, .int .u32 0] 39)) by rw [← hbT]; exact RowAt.new _ _ _)
    refine hK.out _ _ (fun _ => hw50) (fun vw5 hbn => ?_)
    have hw5 := below_mono _ _ hw50 hbn
    replace RV := RowAt.below hbn TV
    have RT := RowAt.below hbn TT
    clear TV
    clear TT
    clear hbn hK K hw4 hw50
    (try simp only [Act.put, List.getElem_toArray, List.getElem_cons_zero, List.getElem_cons_succ, List.setIfInBounds_toArray, List.set_cons_zero, List.set_cons_succ])
    clear hbT
    refine grow_pure [8] 5 (.agg #[.int .i64 7, .int .i64 65536, .int .i64 0, .int .i64 0, .int .i64 0, .int .i64 0, .int .i64 65536, .int .i64 0, .int .i64 0, .int .i64 0, .int .i64 0, .int .i64 65536, .int .i64 0, .int .i64 0, .int .i64 0, .int .i64 0, .int .i64 65536, .slice (some ⟨bV, 0, none⟩) 3 3, .slice (some ⟨bT, 0, none⟩) 1 1]) hG rfl (by kernel_rfl) hw5 (by kernel_rfl) ?_ ?_
    · intro wz hSw; (first | (go_simp; done) | (go_simp; with_reducible rfl))
    intro vw6 hw6 hbn
    replace RV := RowAt.below hbn RV
    replace RT := RowAt.below hbn RT
    clear hbn hw5 vw5
    (try simp only [Act.put, List.getElem_toArray, List.getElem_cons_zero, List.getElem_cons_succ, List.setIfInBounds_toArray, List.set_cons_zero, List.set_cons_succ])
    refine give_step 6 (by kernel_rfl) rfl (fun K hK => ?_)
    go_simp
    obtain ⟨bO, hbO⟩ : ∃ b, vw6.heap.size = b := ⟨_, rfl⟩
    have gbO : V.heap.size ≤ bO := by rw [← hbO]; exact hw6.size
    have nO_V : bV ≠ bO := by have := RV.lt; omega
    have nO_T : bT ≠ bO := by have := RT.lt; omega
    rw [hbO]
    have hw70 : Below V.heap.size V (vw6.alloc (.cells #[.int .i64 7, .int .i64 65536, .int .i64 0, .int .i64 0, .int .i64 0, .int .i64 0, .int .i64 65536, .int .i64 0, .int .i64 0, .int .i64 0, .int .i64 0, .int .i64 65536, .int .i64 0, .int .i64 0, .int .i64 0, .int .i64 0, .int .i64 65536, .slice (some ⟨bV, 0, none⟩) 3 3, .slice (some ⟨bT, 0, none⟩) 1 1] 43)) := Below.alloc hw6 (by have := hw6.size; omega) _
    have TV := RowAt.alloc RV (.cells #[.int .i64 7, .int .i64 65536, .int .i64 0, .int .i64 0, .int .i64 0, .int .i64 0, .int .i64 65536, .int .i64 0, .int .i64 0, .int .i64 0, .int .i64 0, .int .i64 65536, .int .i64 0, .int .i64 0, .int .i64 0, .int .i64 0, .int .i64 65536, .slice (some ⟨bV, 0, none⟩) 3 3, .slice (some ⟨bT, 0, none⟩) 1 1] 43)
    have TT := RowAt.alloc RT (.cells #[.int .i64 7, .int .i64 65536, .int .i64 0, .int .i64 0, .int .i64 0, .int .i64 0, .int .i64 65536, .int .i64 0, .int .i64 0, .int .i64 0, .int .i64 0, .int .i64 65536, .int .i64 0, .int .i64 0, .int .i64 0, .int .i64 0, .int .i64 65536, .slice (some ⟨bV, 0, none⟩) 3 3, .slice (some ⟨bT, 0, none⟩) 1 1] 43)
    have TO := (show RowAt 43 bO #[.int .i64 7, .int .i64 65536, .int .i64 0, .int .i64 0, .int .i64 0, .int .i64 0, .int .i64 65536, .int .i64 0, .int .i64 0, .int .i64 0, .int .i64 0, .int .i64 65536, .int .i64 0, .int .i64 0, .int .i64 0, .int .i64 0, .int .i64 65536, .slice (some ⟨bV, 0, none⟩) 3 3, .slice (some ⟨bT, 0, none⟩) 1 1] (vw6.alloc (.cells #[.int .i64 7, .int .i64 65536, .int .i64 0, .int .i64 0, .int .i64 0, .int .i64 0, .int .i64 65536, .int .i64 0, .int .i64 0, .int .i64 0, .int .i64 0, .int .i64 65536, .int .i64 0, .int .i64 0, .int .i64 0, .int .i64 0, .int .i64 65536, .slice (some ⟨bV, 0, none⟩) 3 3, .slice (some ⟨bT, 0, none⟩) 1 1] 43)) by rw [← hbO]; exact RowAt.new _ _ _)
    refine hK.out _ _ (fun _ => hw70) (fun vw7 hbn => ?_)
    have hw7 := below_mono _ _ hw70 hbn
    replace RV := RowAt.below hbn TV
    replace RT := RowAt.below hbn TT
    have RO := RowAt.below hbn TO
    clear TV
    clear TT
    clear TO
    clear hbn hK K hw6 hw70
    (try simp only [Act.put, List.getElem_toArray, List.getElem_cons_zero, List.getElem_cons_succ, List.setIfInBounds_toArray, List.set_cons_zero, List.set_cons_succ])
    clear hbO
    refine grow_pure [8] 7 (.agg #[.int .i64 4, .int .i64 3, .int .i64 65536, .int .i64 0, .int .i64 0, .int .i64 0, .int .i64 0, .int .i64 65536, .int .i64 0, .int .i64 0, .int .i64 0, .int .i64 0, .int .i64 65536, .int .i64 0, .int .i64 0, .int .i64 0, .int .i64 0, .int .i64 65536, .slice (some ⟨bO, 0, none⟩) 1 1]) hG rfl (by kernel_rfl) hw7 (by kernel_rfl) ?_ ?_
    · intro wz hSw; (first | (go_simp; done) | (go_simp; with_reducible rfl))
    intro vw8 hw8 hbn
    replace RV := RowAt.below hbn RV
    replace RT := RowAt.below hbn RT
    replace RO := RowAt.below hbn RO
    clear hbn hw7 vw7
    (try simp only [Act.put, List.getElem_toArray, List.getElem_cons_zero, List.getElem_cons_succ, List.setIfInBounds_toArray, List.set_cons_zero, List.set_cons_succ])
    have RS := RowAt.below hw8 HRS.out
    refine give_step 8 (by kernel_rfl) rfl (fun K hK => ?_)
    rw [if_pos (by kernel_rfl)]
    refine wpIn_store_row (fun _ => trivial) 28 (.tmp 0) (.tmp 10) (by kernel_rfl) (w.heap.size) _ _ (#[.int .i64 4, .int .i64 3, .int .i64 65536, .int .i64 0, .int .i64 0, .int .i64 0, .int .i64 0, .int .i64 65536, .int .i64 0, .int .i64 0, .int .i64 0, .int .i64 0, .int .i64 65536, .int .i64 0, .int .i64 0, .int .i64 0, .int .i64 0, .int .i64 65536, .slice (some ⟨bO, 0, none⟩) 1 1]) (by kernel_rfl) (by kernel_rfl) (RS) (by kernel_rfl) rfl (by simp [Value.oneCell']) ?_
    refine hK.out _ _ (fun h => by cases h) (fun vx hx => ?_)
    clear hK K
    (try simp only [Act.put, List.getElem_toArray, List.getElem_cons_zero, List.getElem_cons_succ, List.setIfInBounds_toArray, List.set_cons_zero, List.set_cons_succ])
    refine give_done (by kernel_rfl) (?_) _
    refine hK5 _ _ ?_
    have RF : RowAt 28 w.heap.size #[.int .i64 4, .int .i64 3, .int .i64 65536, .int .i64 0, .int .i64 0, .int .i64 0, .int .i64 0, .int .i64 65536, .int .i64 0, .int .i64 0, .int .i64 0, .int .i64 0, .int .i64 65536, .int .i64 0, .int .i64 0, .int .i64 0, .int .i64 0, .int .i64 65536, .slice (some ⟨bO, 0, none⟩) 1 1] vx := RowAt.below hx (RowAt.row RS _)
    have hne : ∀ {b : Nat}, V.heap.size ≤ b → b ≠ w.heap.size := fun h e => by have := (RowAt.lt HRS.out); omega
    have RV2 := RowAt.below hx (RowAt.other RV (hne gbV) #[.int .i64 4, .int .i64 3, .int .i64 65536, .int .i64 0, .int .i64 0, .int .i64 0, .int .i64 0, .int .i64 65536, .int .i64 0, .int .i64 0, .int .i64 0, .int .i64 0, .int .i64 65536, .int .i64 0, .int .i64 0, .int .i64 0, .int .i64 0, .int .i64 65536, .slice (some ⟨bO, 0, none⟩) 1 1])
    have RT2 := RowAt.below hx (RowAt.other RT (hne gbT) #[.int .i64 4, .int .i64 3, .int .i64 65536, .int .i64 0, .int .i64 0, .int .i64 0, .int .i64 0, .int .i64 65536, .int .i64 0, .int .i64 0, .int .i64 0, .int .i64 0, .int .i64 65536, .int .i64 0, .int .i64 0, .int .i64 0, .int .i64 0, .int .i64 65536, .slice (some ⟨bO, 0, none⟩) 1 1])
    have RO2 := RowAt.below hx (RowAt.other RO (hne gbO) #[.int .i64 4, .int .i64 3, .int .i64 65536, .int .i64 0, .int .i64 0, .int .i64 0, .int .i64 0, .int .i64 65536, .int .i64 0, .int .i64 0, .int .i64 0, .int .i64 0, .int .i64 65536, .int .i64 0, .int .i64 0, .int .i64 0, .int .i64 0, .int .i64 65536, .slice (some ⟨bO, 0, none⟩) 1 1])
    have HF : Hid (RetSome w (.returned (.agg (scC (some0 bV bT bO)))) vx) := Lib.hid ⟨bV, bT, bO, rfl, ⟨RV2, RT2, RO2⟩, Nat.le_trans HB1.out.size gbV, Nat.le_trans HB1.out.size gbT, Nat.le_trans HB1.out.size gbO, (Below.row (bnext HB1.out hw8) (Nat.le_refl _) _).trans (hx.mono (by have := HB1.out.size; have := hw8.size; simp; omega))⟩
    have HRF := Lib.hid RF
    clear hG hK5 RV RT RO RV2 RT2 RO2 RS RF hx
    go_wp2_with fail
    exact bodyPost_ret (v := .agg #[.int .i64 4, .int .i64 3, .int .i64 65536, .int .i64 0, .int .i64 0, .int .i64 0, .int .i64 0, .int .i64 65536, .int .i64 0, .int .i64 0, .int .i64 0, .int .i64 0, .int .i64 65536, .int .i64 0, .int .i64 0, .int .i64 0, .int .i64 0, .int .i64 65536, .slice (some ⟨bO, 0, none⟩) 1 1]) (results_cell_row rfl _ _ w.heap.size _ #[.int .i64 4, .int .i64 3, .int .i64 65536, .int .i64 0, .int .i64 0, .int .i64 0, .int .i64 0, .int .i64 65536, .int .i64 0, .int .i64 0, .int .i64 0, .int .i64 0, .int .i64 65536, .int .i64 0, .int .i64 0, .int .i64 0, .int .i64 0, .int .i64 65536, .slice (some ⟨bO, 0, none⟩) 1 1] _ _ rfl HRF.out Tryd.underlying28 rfl (by kernel_rfl)) rfl HF.out
  · go_simp
    obtain ⟨bT, hbT⟩ : ∃ b, vw3.heap.size = b := ⟨_, rfl⟩
    have gbT : V.heap.size ≤ bT := by rw [← hbT]; exact hw3.size
    rw [hbT]
    have hw40 : Below V.heap.size V (vw3.alloc (.cells #[.int .i64 0, .int .i64 1, .int .i64 2, .int .u32 0] 39)) := Below.alloc hw3 (by have := hw3.size; omega) _
    have TT := (show RowAt 39 bT #[.int .i64 0, .int .i64 1, .int .i64 2, .int .u32 0] (vw3.alloc (.cells #[.int .i64 0, .int .i64 1, .int .i64 2, .int .u32 0] 39)) by rw [← hbT]; exact RowAt.new _ _ _)
    refine hK.out _ _ (fun _ => hw40) (fun vw4 hbn => ?_)
    have hw4 := below_mono _ _ hw40 hbn
    have RT := RowAt.below hbn TT
    clear TT
    clear hbn hK K hw3 hw40
    (try simp only [Act.put, List.getElem_toArray, List.getElem_cons_zero, List.getElem_cons_succ, List.setIfInBounds_toArray, List.set_cons_zero, List.set_cons_succ])
    clear hbT
    refine give_step 2 (by kernel_rfl) rfl (fun K hK => ?_)
    go_simp
    rw [make9]
    go_simp
    obtain ⟨bV, hbV⟩ : ∃ b, vw4.heap.size = b := ⟨_, rfl⟩
    have gbV : V.heap.size ≤ bV := by rw [← hbV]; exact hw4.size
    have nV_T : bT ≠ bV := by have := RT.lt; omega
    rw [hbV]
    have hw50 : Below V.heap.size V (vw4.alloc (.cells #[.int .i64 0, .int .i64 0, .int .i64 0, .int .i64 0, .int .i64 0, .int .i64 0, .int .i64 0, .int .i64 0, .int .i64 0] 45)) := Below.alloc hw4 (by have := hw4.size; omega) _
    have TT := RowAt.alloc RT (.cells #[.int .i64 0, .int .i64 0, .int .i64 0, .int .i64 0, .int .i64 0, .int .i64 0, .int .i64 0, .int .i64 0, .int .i64 0] 45)
    have TV := (show RowAt 45 bV #[.int .i64 0, .int .i64 0, .int .i64 0, .int .i64 0, .int .i64 0, .int .i64 0, .int .i64 0, .int .i64 0, .int .i64 0] (vw4.alloc (.cells #[.int .i64 0, .int .i64 0, .int .i64 0, .int .i64 0, .int .i64 0, .int .i64 0, .int .i64 0, .int .i64 0, .int .i64 0] 45)) by rw [← hbV]; exact RowAt.new _ _ _)
    refine hK.out _ _ (fun _ => hw50) (fun vw5 hbn => ?_)
    have hw5 := below_mono _ _ hw50 hbn
    replace RT := RowAt.below hbn TT
    have RV := RowAt.below hbn TV
    clear TT
    clear TV
    clear hbn hK K hw4 hw50
    (try simp only [Act.put, List.getElem_toArray, List.getElem_cons_zero, List.getElem_cons_succ, List.setIfInBounds_toArray, List.set_cons_zero, List.set_cons_succ])
    clear hbV
    refine grow_pure [8] 5 (.agg #[.int .i64 7, .int .i64 65536, .int .i64 0, .int .i64 0, .int .i64 0, .int .i64 0, .int .i64 65536, .int .i64 0, .int .i64 0, .int .i64 0, .int .i64 0, .int .i64 65536, .int .i64 0, .int .i64 0, .int .i64 0, .int .i64 0, .int .i64 65536, .slice (some ⟨bV, 0, none⟩) 3 3, .slice (some ⟨bT, 0, none⟩) 1 1]) hG rfl (by kernel_rfl) hw5 (by kernel_rfl) ?_ ?_
    · intro wz hSw; (first | (go_simp; done) | (go_simp; with_reducible rfl))
    intro vw6 hw6 hbn
    replace RT := RowAt.below hbn RT
    replace RV := RowAt.below hbn RV
    clear hbn hw5 vw5
    (try simp only [Act.put, List.getElem_toArray, List.getElem_cons_zero, List.getElem_cons_succ, List.setIfInBounds_toArray, List.set_cons_zero, List.set_cons_succ])
    refine give_step 6 (by kernel_rfl) rfl (fun K hK => ?_)
    go_simp
    obtain ⟨bO, hbO⟩ : ∃ b, vw6.heap.size = b := ⟨_, rfl⟩
    have gbO : V.heap.size ≤ bO := by rw [← hbO]; exact hw6.size
    have nO_T : bT ≠ bO := by have := RT.lt; omega
    have nO_V : bV ≠ bO := by have := RV.lt; omega
    rw [hbO]
    have hw70 : Below V.heap.size V (vw6.alloc (.cells #[.int .i64 7, .int .i64 65536, .int .i64 0, .int .i64 0, .int .i64 0, .int .i64 0, .int .i64 65536, .int .i64 0, .int .i64 0, .int .i64 0, .int .i64 0, .int .i64 65536, .int .i64 0, .int .i64 0, .int .i64 0, .int .i64 0, .int .i64 65536, .slice (some ⟨bV, 0, none⟩) 3 3, .slice (some ⟨bT, 0, none⟩) 1 1] 43)) := Below.alloc hw6 (by have := hw6.size; omega) _
    have TT := RowAt.alloc RT (.cells #[.int .i64 7, .int .i64 65536, .int .i64 0, .int .i64 0, .int .i64 0, .int .i64 0, .int .i64 65536, .int .i64 0, .int .i64 0, .int .i64 0, .int .i64 0, .int .i64 65536, .int .i64 0, .int .i64 0, .int .i64 0, .int .i64 0, .int .i64 65536, .slice (some ⟨bV, 0, none⟩) 3 3, .slice (some ⟨bT, 0, none⟩) 1 1] 43)
    have TV := RowAt.alloc RV (.cells #[.int .i64 7, .int .i64 65536, .int .i64 0, .int .i64 0, .int .i64 0, .int .i64 0, .int .i64 65536, .int .i64 0, .int .i64 0, .int .i64 0, .int .i64 0, .int .i64 65536, .int .i64 0, .int .i64 0, .int .i64 0, .int .i64 0, .int .i64 65536, .slice (some ⟨bV, 0, none⟩) 3 3, .slice (some ⟨bT, 0, none⟩) 1 1] 43)
    have TO := (show RowAt 43 bO #[.int .i64 7, .int .i64 65536, .int .i64 0, .int .i64 0, .int .i64 0, .int .i64 0, .int .i64 65536, .int .i64 0, .int .i64 0, .int .i64 0, .int .i64 0, .int .i64 65536, .int .i64 0, .int .i64 0, .int .i64 0, .int .i64 0, .int .i64 65536, .slice (some ⟨bV, 0, none⟩) 3 3, .slice (some ⟨bT, 0, none⟩) 1 1] (vw6.alloc (.cells #[.int .i64 7, .int .i64 65536, .int .i64 0, .int .i64 0, .int .i64 0, .int .i64 0, .int .i64 65536, .int .i64 0, .int .i64 0, .int .i64 0, .int .i64 0, .int .i64 65536, .int .i64 0, .int .i64 0, .int .i64 0, .int .i64 0, .int .i64 65536, .slice (some ⟨bV, 0, none⟩) 3 3, .slice (some ⟨bT, 0, none⟩) 1 1] 43)) by rw [← hbO]; exact RowAt.new _ _ _)
    refine hK.out _ _ (fun _ => hw70) (fun vw7 hbn => ?_)
    have hw7 := below_mono _ _ hw70 hbn
    replace RT := RowAt.below hbn TT
    replace RV := RowAt.below hbn TV
    have RO := RowAt.below hbn TO
    clear TT
    clear TV
    clear TO
    clear hbn hK K hw6 hw70
    (try simp only [Act.put, List.getElem_toArray, List.getElem_cons_zero, List.getElem_cons_succ, List.setIfInBounds_toArray, List.set_cons_zero, List.set_cons_succ])
    clear hbO
    refine grow_pure [8] 7 (.agg #[.int .i64 4, .int .i64 3, .int .i64 65536, .int .i64 0, .int .i64 0, .int .i64 0, .int .i64 0, .int .i64 65536, .int .i64 0, .int .i64 0, .int .i64 0, .int .i64 0, .int .i64 65536, .int .i64 0, .int .i64 0, .int .i64 0, .int .i64 0, .int .i64 65536, .slice (some ⟨bO, 0, none⟩) 1 1]) hG rfl (by kernel_rfl) hw7 (by kernel_rfl) ?_ ?_
    · intro wz hSw; (first | (go_simp; done) | (go_simp; with_reducible rfl))
    intro vw8 hw8 hbn
    replace RT := RowAt.below hbn RT
    replace RV := RowAt.below hbn RV
    replace RO := RowAt.below hbn RO
    clear hbn hw7 vw7
    (try simp only [Act.put, List.getElem_toArray, List.getElem_cons_zero, List.getElem_cons_succ, List.setIfInBounds_toArray, List.set_cons_zero, List.set_cons_succ])
    have RS := RowAt.below hw8 HRS.out
    refine give_step 8 (by kernel_rfl) rfl (fun K hK => ?_)
    rw [if_pos (by kernel_rfl)]
    refine wpIn_store_row (fun _ => trivial) 28 (.tmp 0) (.tmp 10) (by kernel_rfl) (w.heap.size) _ _ (#[.int .i64 4, .int .i64 3, .int .i64 65536, .int .i64 0, .int .i64 0, .int .i64 0, .int .i64 0, .int .i64 65536, .int .i64 0, .int .i64 0, .int .i64 0, .int .i64 0, .int .i64 65536, .int .i64 0, .int .i64 0, .int .i64 0, .int .i64 0, .int .i64 65536, .slice (some ⟨bO, 0, none⟩) 1 1]) (by kernel_rfl) (by kernel_rfl) (RS) (by kernel_rfl) rfl (by simp [Value.oneCell']) ?_
    refine hK.out _ _ (fun h => by cases h) (fun vx hx => ?_)
    clear hK K
    (try simp only [Act.put, List.getElem_toArray, List.getElem_cons_zero, List.getElem_cons_succ, List.setIfInBounds_toArray, List.set_cons_zero, List.set_cons_succ])
    refine give_done (by kernel_rfl) (?_) _
    refine hK5 _ _ ?_
    have RF : RowAt 28 w.heap.size #[.int .i64 4, .int .i64 3, .int .i64 65536, .int .i64 0, .int .i64 0, .int .i64 0, .int .i64 0, .int .i64 65536, .int .i64 0, .int .i64 0, .int .i64 0, .int .i64 0, .int .i64 65536, .int .i64 0, .int .i64 0, .int .i64 0, .int .i64 0, .int .i64 65536, .slice (some ⟨bO, 0, none⟩) 1 1] vx := RowAt.below hx (RowAt.row RS _)
    have hne : ∀ {b : Nat}, V.heap.size ≤ b → b ≠ w.heap.size := fun h e => by have := (RowAt.lt HRS.out); omega
    have RV2 := RowAt.below hx (RowAt.other RV (hne gbV) #[.int .i64 4, .int .i64 3, .int .i64 65536, .int .i64 0, .int .i64 0, .int .i64 0, .int .i64 0, .int .i64 65536, .int .i64 0, .int .i64 0, .int .i64 0, .int .i64 0, .int .i64 65536, .int .i64 0, .int .i64 0, .int .i64 0, .int .i64 0, .int .i64 65536, .slice (some ⟨bO, 0, none⟩) 1 1])
    have RT2 := RowAt.below hx (RowAt.other RT (hne gbT) #[.int .i64 4, .int .i64 3, .int .i64 65536, .int .i64 0, .int .i64 0, .int .i64 0, .int .i64 0, .int .i64 65536, .int .i64 0, .int .i64 0, .int .i64 0, .int .i64 0, .int .i64 65536, .int .i64 0, .int .i64 0, .int .i64 0, .int .i64 0, .int .i64 65536, .slice (some ⟨bO, 0, none⟩) 1 1])
    have RO2 := RowAt.below hx (RowAt.other RO (hne gbO) #[.int .i64 4, .int .i64 3, .int .i64 65536, .int .i64 0, .int .i64 0, .int .i64 0, .int .i64 0, .int .i64 65536, .int .i64 0, .int .i64 0, .int .i64 0, .int .i64 0, .int .i64 65536, .int .i64 0, .int .i64 0, .int .i64 0, .int .i64 0, .int .i64 65536, .slice (some ⟨bO, 0, none⟩) 1 1])
    have HF : Hid (RetSome w (.returned (.agg (scC (some0 bV bT bO)))) vx) := Lib.hid ⟨bV, bT, bO, rfl, ⟨RV2, RT2, RO2⟩, Nat.le_trans HB1.out.size gbV, Nat.le_trans HB1.out.size gbT, Nat.le_trans HB1.out.size gbO, (Below.row (bnext HB1.out hw8) (Nat.le_refl _) _).trans (hx.mono (by have := HB1.out.size; have := hw8.size; simp; omega))⟩
    have HRF := Lib.hid RF
    clear hG hK5 RV RT RO RV2 RT2 RO2 RS RF hx
    go_wp2_with fail
    exact bodyPost_ret (v := .agg #[.int .i64 4, .int .i64 3, .int .i64 65536, .int .i64 0, .int .i64 0, .int .i64 0, .int .i64 0, .int .i64 65536, .int .i64 0, .int .i64 0, .int .i64 0, .int .i64 0, .int .i64 65536, .int .i64 0, .int .i64 0, .int .i64 0, .int .i64 0, .int .i64 65536, .slice (some ⟨bO, 0, none⟩) 1 1]) (results_cell_row rfl _ _ w.heap.size _ #[.int .i64 4, .int .i64 3, .int .i64 65536, .int .i64 0, .int .i64 0, .int .i64 0, .int .i64 0, .int .i64 65536, .int .i64 0, .int .i64 0, .int .i64 0, .int .i64 0, .int .i64 65536, .int .i64 0, .int .i64 0, .int .i64 0, .int .i64 0, .int .i64 65536, .slice (some ⟨bO, 0, none⟩) 1 1] _ _ rfl HRF.out Tryd.underlying28 rfl (by kernel_rfl)) rfl HF.out
end Go.Proofs.YtbkahmnchpbhfaaDoor.Fx
