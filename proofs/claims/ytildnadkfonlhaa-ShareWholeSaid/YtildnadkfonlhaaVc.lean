/- Both matrices of an object: the program's Both, walked. -/
import Derived.Test.YtildnadkfonlhaaProg
import Derived.Test.YtildnadkfonlhaaSf
import Derived.Test.YtildnadkfonlhaaMu
set_option linter.unusedVariables false
set_option linter.unusedSimpArgs false
namespace Go.Proofs.Ytildnadkfonlhaa.Fx
open Go Go.RowKit
set_option maxRecDepth 100000 in
set_option maxHeartbeats 4000000 in
theorem pboth_any (s : ScR) (k : Int) (w : World) (hs : ScWf s) (h : ObjsAt w s.oo s.os) :
    Calls Try.prog 39 #[.agg (scC s), .int .i64 k] w (RetBoth (bothO s k) w) := by
  have HI := Lib.hid (BoI.new h)
  have HS := Lib.hid hs
  have c18 : ((w.alloc (.cells (scC s) 32)).alloc (.cells #[.int .i64 0, .int .i64 0, .int .i64 0, .int .i64 0, .int .i64 0, .int .i64 0, .int .i64 0, .int .i64 0, .int .i64 0, .int .i64 0, .int .i64 0, .int .i64 0, .int .i64 0, .int .i64 0, .int .i64 0, .int .i64 0] 29)).cell? ⟨w.heap.size, 18, none⟩ = some (.slice s.oo s.os.length s.oc) := HI.out.sc.c18 hs
  have hcap := hs.cap.1
  obtain ⟨n, hn⟩ : ∃ n, s.os.length = n := ⟨_, rfl⟩
  have HN := Lib.hid hn
  rw [hn] at c18 hcap
  have n0 : (0 : Int) ≤ (n : Int) := by omega
  have n1 : (n : Int) ≤ 9223372036854775807 := by omega
  clear hn hcap hs h
  by_cases h1 : k < 0
  · have HR : Hid (bothO s k = none) := Lib.hid (by unfold bothO; rw [if_neg (by omega)])
    go_enter Try.func39, Try.ntmps39
    go_wp2_with (first | (refine wpList_build_to rfl 29 #[] rfl (mC zero16) (by kernel_rfl) ?_) | (refine wpList_store_big rfl 29 (.tmp 4) (.tmp 17) rfl (w.heap.size + 1) _ _ (mC zero16) rfl rfl HI.out.rr size16 rfl (mC_one _) ?_))
    (try simp only [Exit.inBlock, Exit.then])
    exact bodyPost_ret (v := .tuple #[.agg (mC zero16), .int .i64 60]) (results_row_tmp rfl _ _ (w.heap.size + 1) _ (mC zero16) _ _ (.int .i64 60) rfl (HI.out.rr.row _) Try.underlying29 rfl (by kernel_rfl) rfl) rfl ⟨by rw [HR.out]; rfl, Below.row HI.out.bel (by omega) _⟩
  by_cases h2 : (n : Int) ≤ k
  · have HR : Hid (bothO s k = none) := Lib.hid (by unfold bothO; rw [if_neg (by rw [HN.out]; omega)])
    go_enter Try.func39, Try.ntmps39
    go_wp2_with (first | (refine wpList_build_to rfl 29 #[] rfl (mC zero16) (by kernel_rfl) ?_) | (refine wpList_store_big rfl 29 (.tmp 4) (.tmp 17) rfl (w.heap.size + 1) _ _ (mC zero16) rfl rfl HI.out.rr size16 rfl (mC_one _) ?_))
    (try simp only [Exit.inBlock, Exit.then])
    exact bodyPost_ret (v := .tuple #[.agg (mC zero16), .int .i64 60]) (results_row_tmp rfl _ _ (w.heap.size + 1) _ (mC zero16) _ _ (.int .i64 60) rfl (HI.out.rr.row _) Try.underlying29 rfl (by kernel_rfl) rfl) rfl ⟨by rw [HR.out]; rfl, Below.row HI.out.bel (by omega) _⟩
  obtain ⟨j, rfl⟩ : ∃ j : Nat, k = (j : Int) := ⟨k.toNat, by omega⟩
  have hj : j < n := by omega
  obtain ⟨x, hx⟩ : ∃ x, s.os[j]? = some x := ⟨_, List.getElem?_eq_getElem (by rw [HN.out]; exact hj)⟩
  have HR : Hid (bothO s (j : Int) = mulO s.cam x.m) := Lib.hid (by
    unfold bothO
    rw [if_pos (by rw [HN.out]; omega)]
    simp [hx])
  have HRG : Hid (∀ W, ObjsAt W s.oo s.os → ∃ b off, s.oo = some ⟨b, off, none⟩ ∧ W.rangeAt b (off + j * 19 + 1) (x.m.map encI)) := Lib.hid (fun W h => by
    obtain ⟨b, off, e, hat⟩ := h j x hx
    exact ⟨b, off, e, hat.mat⟩)
  have HX : Hid (ObjWf x) := Lib.hid (by
    obtain ⟨b, off, e, hat⟩ := HI.out.ob j x hx
    exact hat.wf)
  obtain ⟨b, off, e, _⟩ := HRG.out _ HI.out.ob
  have HRM : Hid (∀ W, ObjsAt W s.oo s.os → W.rangeAt b (off + j * 19 + 1) (x.m.map encI)) := Lib.hid (fun W h => by
    obtain ⟨b', off', e', hat⟩ := HRG.out W h
    rw [e] at e'
    injection e' with e'
    injection e' with e1 e2
    subst e1 e2
    exact hat)
  have EO := Lib.hid e
  rw [e] at c18
  have j1 : (j : Int) < (n : Int) := by omega
  have j0 : (0 : Int) ≤ (j : Int) := by omega
  have hM := Lib.hid (sizeM HX.out.len)
  have hC := Lib.hid (sizeM HS.out.len)
  obtain ⟨r, hr⟩ : ∃ r, mulO s.cam x.m = r := ⟨_, rfl⟩
  obtain ⟨u, hu⟩ : ∃ u, r.getD zero16 = u := ⟨_, rfl⟩
  obtain ⟨er, her⟩ : ∃ er : Int, (if r.isSome then (0 : Int) else 30) = er := ⟨_, rfl⟩
  have HLN : Hid (u.length = 16) := Lib.hid (by
    rw [← hu]
    cases r with
    | none => rfl
    | some m => exact mulO_len hr)
  have cA : Hid (Ans 50 #[.agg (mC s.cam), .agg (mC x.m)] (.tuple #[.agg (mC u), .int .i64 er])) := Lib.hid fun w => by
    have := mmul_any s.cam x.m w HS.out.len HX.out.len
    unfold RetMM at this
    rw [hr, hu, her] at this
    exact this
  have HU := Lib.hid hu
  have HER := Lib.hid her
  rw [hr] at HR
  have INFU := Lib.hid (show (Try.prog.info? 29).map (·.size) = some (mC u).size by rw [size16, mC_size, HLN.out])
  have SAMU := Lib.hid (show 16 = (mC u).size by rw [mC_size, HLN.out])
  rw [HR.out]
  clear hx HRG e hr hu her h1 h2 hj
  go_enter Try.func39, Try.ntmps39
  go_wp2_with fail
  clear c18
  generalize ((w.alloc (.cells (scC s) 32)).alloc (.cells #[.int .i64 0, .int .i64 0, .int .i64 0, .int .i64 0, .int .i64 0, .int .i64 0, .int .i64 0, .int .i64 0, .int .i64 0, .int .i64 0, .int .i64 0, .int .i64 0, .int .i64 0, .int .i64 0, .int .i64 0, .int .i64 0] 29)) = V at HI ⊢
  rename_i K5 hK5
  refine (wpIn_wide (n := 5)).1 (give_region (S := fun X => Below V.heap.size V X) (Z := []) (by kernel_rfl) (by kernel_rfl) below_mono (fun d _ _ _ _ h => by cases d <;> exact h) (bdrew0 _ _ 1) (fun hG vw0 hw0 => ?_))
  refine grow_pure [] 0 (?_) hG rfl (by kernel_rfl) hw0 (by kernel_rfl) ?_ ?_
  rotate_left
  · intro wz hSw; (first | (go_simp; done) | (go_simp; with_reducible rfl))
  intro vw1 hw1 hbn
  clear hbn hw0 vw0
  (try simp only [Act.put, List.getElem_toArray, List.getElem_cons_zero, List.getElem_cons_succ, List.setIfInBounds_toArray, List.set_cons_zero, List.set_cons_succ])
  refine grow_pure [] 1 (.agg (mC s.cam)) hG rfl (by kernel_rfl) hw1 (by kernel_rfl) ?_ ?_
  · intro wz hSw; exact exec_load_mid 29 (.tmp 19) (by kernel_rfl) w.heap.size 2 (by kernel_rfl) (s.cam.map encI) _ (HI.out.sc.below hSw).cam Try.underlying29 (by kernel_rfl) hC.out
  intro vw2 hw2 hbn
  clear hbn hw1 vw1
  (try simp only [Act.put, List.getElem_toArray, List.getElem_cons_zero, List.getElem_cons_succ, List.setIfInBounds_toArray, List.set_cons_zero, List.set_cons_succ])
  refine grow_pure [] 2 (?_) hG rfl (by kernel_rfl) hw2 (by kernel_rfl) ?_ ?_
  rotate_left
  · intro wz hSw; (first | (go_simp; done) | (go_simp; with_reducible rfl))
  intro vw3 hw3 hbn
  clear hbn hw2 vw2
  (try simp only [Act.put, List.getElem_toArray, List.getElem_cons_zero, List.getElem_cons_succ, List.setIfInBounds_toArray, List.set_cons_zero, List.set_cons_succ])
  refine grow_pure [] 3 (.slice (some ⟨b, off, none⟩) n s.oc) hG rfl (by kernel_rfl) hw3 (by kernel_rfl) ?_ ?_
  · intro wz hSw; have c18 := (HI.out.sc.below hSw).c18 HS.out; rw [EO.out, HN.out] at c18; (first | (go_simp; done) | (go_simp; with_reducible rfl))
  intro vw4 hw4 hbn
  clear hbn hw3 vw3
  (try simp only [Act.put, List.getElem_toArray, List.getElem_cons_zero, List.getElem_cons_succ, List.setIfInBounds_toArray, List.set_cons_zero, List.set_cons_succ])
  refine grow_pure [] 4 (?_) hG rfl (by kernel_rfl) hw4 (by kernel_rfl) ?_ ?_
  rotate_left
  · intro wz hSw; (first | (go_simp; done) | (go_simp; with_reducible rfl))
  intro vw5 hw5 hbn
  clear hbn hw4 vw4
  (try simp only [Act.put, List.getElem_toArray, List.getElem_cons_zero, List.getElem_cons_succ, List.setIfInBounds_toArray, List.set_cons_zero, List.set_cons_succ])
  refine grow_pure [] 5 (.pointer (some ⟨b, off + j * 19, none⟩)) hG rfl (by kernel_rfl) hw5 (by kernel_rfl) ?_ ?_
  · intro wz hSw; (first | (go_simp; done) | (go_simp; with_reducible rfl))
  intro vw6 hw6 hbn
  clear hbn hw5 vw5
  (try simp only [Act.put, List.getElem_toArray, List.getElem_cons_zero, List.getElem_cons_succ, List.setIfInBounds_toArray, List.set_cons_zero, List.set_cons_succ])
  refine grow_pure [] 6 (.pointer (some ⟨b, off + j * 19 + 1, none⟩)) hG rfl (by kernel_rfl) hw6 (by kernel_rfl) ?_ ?_
  · intro wz hSw; (first | (go_simp; done) | (go_simp; with_reducible rfl))
  intro vw7 hw7 hbn
  clear hbn hw6 vw6
  (try simp only [Act.put, List.getElem_toArray, List.getElem_cons_zero, List.getElem_cons_succ, List.setIfInBounds_toArray, List.set_cons_zero, List.set_cons_succ])
  refine grow_pure [] 7 (.agg (mC x.m)) hG rfl (by kernel_rfl) hw7 (by kernel_rfl) ?_ ?_
  · intro wz hSw; exact exec_load_mid 29 (.tmp 25) (by kernel_rfl) b (off + j * 19 + 1) (by kernel_rfl) (x.m.map encI) _ (HRM.out _ (HI.out.ob.below hSw)) Try.underlying29 (by kernel_rfl) hM.out
  intro vw8 hw8 hbn
  clear hbn hw7 vw7
  (try simp only [Act.put, List.getElem_toArray, List.getElem_cons_zero, List.getElem_cons_succ, List.setIfInBounds_toArray, List.set_cons_zero, List.set_cons_succ])
  refine grow_call [] 8 50 #[.agg (mC s.cam), .agg (mC x.m)] (.tuple #[.agg (mC u), .int .i64 er]) hG rfl (by kernel_rfl) hw8 (by kernel_rfl) ?_ (cA.out) ?_
  · intro wz; (first | (go_simp; done) | (go_simp; with_reducible rfl))
  intro vw9 hw9 hbn
  clear hbn hw8 vw8
  (try simp only [Act.put, List.getElem_toArray, List.getElem_cons_zero, List.getElem_cons_succ, List.setIfInBounds_toArray, List.set_cons_zero, List.set_cons_succ])
  refine grow_pure [] 9 (?_) hG rfl (by kernel_rfl) hw9 (by kernel_rfl) ?_ ?_
  rotate_left
  · intro wz hSw; (first | (go_simp; done) | (go_simp; with_reducible rfl))
  intro vw10 hw10 hbn
  clear hbn hw9 vw9
  (try simp only [Act.put, List.getElem_toArray, List.getElem_cons_zero, List.getElem_cons_succ, List.setIfInBounds_toArray, List.set_cons_zero, List.set_cons_succ])
  refine grow_pure [] 10 (?_) hG rfl (by kernel_rfl) hw10 (by kernel_rfl) ?_ ?_
  rotate_left
  · intro wz hSw; (first | (go_simp; done) | (go_simp; with_reducible rfl))
  intro vw11 hw11 hbn
  clear hbn hw10 vw10
  (try simp only [Act.put, List.getElem_toArray, List.getElem_cons_zero, List.getElem_cons_succ, List.setIfInBounds_toArray, List.set_cons_zero, List.set_cons_succ])
  refine grow_pure [] 11 (?_) hG rfl (by kernel_rfl) hw11 (by kernel_rfl) ?_ ?_
  rotate_left
  · intro wz hSw; (first | (go_simp; done) | (go_simp; with_reducible rfl))
  intro vw12 hw12 hbn
  clear hbn hw11 vw11
  (try simp only [Act.put, List.getElem_toArray, List.getElem_cons_zero, List.getElem_cons_succ, List.setIfInBounds_toArray, List.set_cons_zero, List.set_cons_succ])
  refine give_step 12 (by kernel_rfl) rfl (fun K hK => ?_)
  go_simp
  obtain ⟨bC, hbC⟩ : ∃ b, vw12.heap.size = b := ⟨_, rfl⟩
  have gbC : V.heap.size ≤ bC := by rw [← hbC]; exact hw12.size
  rw [hbC]
  have hw130 : Below V.heap.size V (vw12.alloc (.cells #[.int .i64 0, .int .i64 0, .int .i64 0, .int .i64 0, .int .i64 0, .int .i64 0, .int .i64 0, .int .i64 0, .int .i64 0, .int .i64 0, .int .i64 0, .int .i64 0, .int .i64 0, .int .i64 0, .int .i64 0, .int .i64 0] 29)) := Below.alloc hw12 (by have := hw12.size; omega) _
  have TC := (show RowAt 29 bC #[.int .i64 0, .int .i64 0, .int .i64 0, .int .i64 0, .int .i64 0, .int .i64 0, .int .i64 0, .int .i64 0, .int .i64 0, .int .i64 0, .int .i64 0, .int .i64 0, .int .i64 0, .int .i64 0, .int .i64 0, .int .i64 0] (vw12.alloc (.cells #[.int .i64 0, .int .i64 0, .int .i64 0, .int .i64 0, .int .i64 0, .int .i64 0, .int .i64 0, .int .i64 0, .int .i64 0, .int .i64 0, .int .i64 0, .int .i64 0, .int .i64 0, .int .i64 0, .int .i64 0, .int .i64 0] 29)) by rw [← hbC]; exact RowAt.new _ _ _)
  refine hK.out _ _ (fun _ => hw130) (fun vw13 hbn => ?_)
  have hw13 := below_mono _ _ hw130 hbn
  have RC := RowAt.below hbn TC
  clear TC
  clear hbn hK K hw12 hw130
  (try simp only [Act.put, List.getElem_toArray, List.getElem_cons_zero, List.getElem_cons_succ, List.setIfInBounds_toArray, List.set_cons_zero, List.set_cons_succ])
  clear hbC
  refine give_step 13 (by kernel_rfl) rfl (fun K hK => ?_)
  rw [if_pos (by kernel_rfl)]
  refine wpIn_store_row (fun _ => trivial) 29 (.tmp 6) (.tmp 28) (by kernel_rfl) (bC) _ _ (mC u) (by kernel_rfl) (by kernel_rfl) RC INFU.out SAMU.out (mC_one _) ?_
  have hw140 : Below V.heap.size V (vw13.setRow bC (mC u)) := Below.row hw13 (by omega) _
  have TC := RowAt.row RC (mC u)
  refine hK.out _ _ (fun _ => hw140) (fun vw14 hbn => ?_)
  have hw14 := below_mono _ _ hw140 hbn
  replace RC := RowAt.below hbn TC
  clear TC
  clear hbn hK K hw13 hw140
  (try simp only [Act.put, List.getElem_toArray, List.getElem_cons_zero, List.getElem_cons_succ, List.setIfInBounds_toArray, List.set_cons_zero, List.set_cons_succ])
  refine grow_pure [] 14 (?_) hG rfl (by kernel_rfl) hw14 (by kernel_rfl) ?_ ?_
  rotate_left
  · intro wz hSw; (first | (go_simp; done) | (go_simp; with_reducible rfl))
  intro vw15 hw15 hbn
  replace RC := RowAt.below hbn RC
  clear hbn hw14 vw14
  (try simp only [Act.put, List.getElem_toArray, List.getElem_cons_zero, List.getElem_cons_succ, List.setIfInBounds_toArray, List.set_cons_zero, List.set_cons_succ])
  refine give_done (by kernel_rfl) (?_) _
  refine hK5 _ _ ?_
  have HI2 := Lib.hid (HI.out.up hw15)
  have HRC := Lib.hid RC
  clear RC hK5 hG HI cA HRM gbC
  cases r with
  | none =>
    obtain rfl : er = 30 := HER.out.symm
    clear HRC INFU SAMU
    go_wp2_with (first | (refine wpList_build_to rfl 29 #[] rfl (mC zero16) (by kernel_rfl) ?_) | (refine wpList_store_big rfl 29 (.tmp 4) (.tmp 32) rfl (w.heap.size + 1) _ _ (mC zero16) rfl rfl HI2.out.rr size16 rfl (mC_one _) ?_))
    (try simp only [Exit.inBlock, Exit.then])
    exact bodyPost_ret (v := .tuple #[.agg (mC zero16), .int .i64 60]) (results_row_tmp rfl _ _ (w.heap.size + 1) _ (mC zero16) _ _ (.int .i64 60) rfl (HI2.out.rr.row _) Try.underlying29 rfl (by kernel_rfl) rfl) rfl ⟨rfl, Below.row HI2.out.bel (by omega) _⟩
  | some m =>
    obtain rfl : m = u := HU.out
    obtain rfl : er = 0 := HER.out.symm
    have SAM2 : Hid ((mC zero16).size = (mC m).size) := Lib.hid (by rw [mC_size, mC_size, HLN.out]; rfl)
    go_wp2_with (first | (refine wpList_load_row rfl 29 (.tmp 6) rfl (bC) rfl _ _ _ _ HRC.out Try.underlying29 rfl INFU.out ?_) | (refine wpList_store_big rfl 29 (.tmp 4) (.tmp 33) rfl (w.heap.size + 1) _ _ (mC m) rfl rfl HI2.out.rr INFU.out SAM2.out (mC_one _) ?_))
    (try simp only [Exit.inBlock, Exit.then])
    exact bodyPost_ret (v := .tuple #[.agg (mC m), .int .i64 0]) (results_row_tmp rfl _ _ (w.heap.size + 1) _ (mC m) _ _ (.int .i64 0) rfl (HI2.out.rr.row _) Try.underlying29 rfl INFU.out rfl) rfl ⟨rfl, Below.row HI2.out.bel (by omega) _⟩
end Go.Proofs.Ytildnadkfonlhaa.Fx
