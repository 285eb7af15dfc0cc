/- SceneBounds, walked. -/
import Derived.Test.YtbkahmnchpbhfaaProg
import Derived.Test.YtbkahmnchpbhfaaVh
import Derived.Test.YtbkahmnchpbhfaaVj
set_option linter.unusedVariables false
set_option linter.unusedSimpArgs false
namespace Go.Proofs.Ytbkahmnchpbhfaa.Fx
open Go Go.RowKit Go.Shelf Wm
attribute [local go_sem] Oper.semAt_some
theorem sizeV {v : List Int} (h : v.length = 3) : (Try.prog.info? 47).map (·.size) = some (v.map encI).length := by rw [List.length_map, h]; kernel_rfl
def BdRel (s : ScR) (w : World) (n g : Nat) (s4 u : Value) (W : World) : Prop := ∃ k : Nat, g = n - k ∧ u = .int .i64 (k : Int) ∧ k ≤ n ∧ WrI s w W
def BvRel (s : ScR) (mm : List Int) (b7 : Nat) (w : World) (n g : Nat) (u : Value) (W : World) : Prop := ∃ k : Nat, g = n - k ∧ u = .int .i64 (k : Int) ∧ k ≤ n ∧ WrI s w W ∧ RowAt 25 b7 (mC mm) W
theorem WrI.grow {s : ScR} {w V : World} (i : WrI s w V) (o : Obj) : WrI s w (V.alloc o) := i.up ((Below.refl _ V).alloc (Nat.le_refl _) _)
set_option maxRecDepth 100000 in
set_option maxHeartbeats 4000000 in
theorem law_sceneBounds (s : ScR) (hs : ScWf s) (w : World) (h : ObjsAt w s.oo s.os) :
    Calls Try.prog 4 #[.agg (scC s)] w fun e w' => e = .returned (.bool true) ∧ Below w.heap.size w w' := by
  have HI := Lib.hid (WrI.new h)
  have HS := Lib.hid hs
  have hall := Lib.hid (sizeS hs)
  clear h hs
  go_enter Try.func4, Try.ntmps4
  go_wp2_with fail
  refine (alive_any _).mono ?_
  rintro e w1 ⟨rfl, hb⟩
  have HI1 := Lib.hid (HI.out.up hb)
  have HC := Lib.hid (pcheck_any s w1 HS.out HI1.out.ob)
  clear hb HI
  unfold RetErr at HC
  cases hok : okZ s with
  | false =>
    rw [hok] at HC
    clear hok
    go_wp2_with (refine wpList_load_mid rfl 28 (.tmp 1) rfl w.heap.size 0 rfl (scL s) _ HI1.out.sc.all Try.underlying28 rfl hall.out ?_)
    refine HC.out.mono ?_
    rintro e w2 ⟨rfl, hb⟩
    have HB := Lib.hid (bnext HI1.out.bel hb)
    clear hb HC
    go_wp2_with fail
    go_ret
    exact ⟨rfl, HB.out⟩
  | true =>
    rw [hok] at HC
    have HOK := Lib.hid hok
    clear hok
    go_wp2_with (refine wpList_load_mid rfl 28 (.tmp 1) rfl w.heap.size 0 rfl (scL s) _ HI1.out.sc.all Try.underlying28 rfl hall.out ?_)
    refine HC.out.mono ?_
    rintro e w2 ⟨rfl, hb⟩
    have HI2 := Lib.hid (HI1.out.up hb)
    clear hb HC HI1
    have c18 := HI2.out.sc.c18 HS.out
    have hcap := HS.out.cap.1
    obtain ⟨n, hn⟩ : ∃ n, s.os.length = n := ⟨_, rfl⟩
    have HN := Lib.hid hn
    rw [hn] at c18 hcap
    have n0 : (0 : Int) ≤ (n : Int) := by omega
    have n1 : (n : Int) ≤ 9223372036854775807 := by omega
    clear hn hcap
    go_wp2_with fail
    clear c18
    go_loopg [4, 26] n (BdRel s w n)
    case atStart => exact ⟨0, rfl, rfl, by omega, HI2.out⟩
    case round =>
      obtain ⟨k, hg, rfl, hk, hi⟩ := hrel
      have HI := Lib.hid hi
      subst hg
      clear hi HI2
      have k0 : (0 : Int) ≤ (k : Int) := by omega
      by_cases hkn : k < n
      · have t1 : (k : Int) < (n : Int) := by omega
        obtain ⟨x, hx⟩ : ∃ x, s.os[k]? = some x := ⟨_, List.getElem?_eq_getElem (by rw [HN.out]; exact hkn)⟩
        obtain ⟨b, off, e, _⟩ := HI.out.ob k x hx
        have HAT : Hid (∀ W, ObjsAt W s.oo s.os → ObjAt W b (off + k * 19) x) := Lib.hid (fun W h => by
          obtain ⟨b', off', e', hat⟩ := h k x hx
          rw [e] at e'
          injection e' with e'
          injection e' with e1 e2
          subst e1 e2
          exact hat)
        have EO := Lib.hid e
        have HX := Lib.hid (HI.out.ob.wf hx).1
        have HF := Lib.hid (ok_find HOK.out hx)
        have HFC : Hid (∀ W, WrI s w W → Calls Try.prog 9 #[.agg (scC s), .int .i64 x.id] W fun e w' => e = .returned (.tuple #[.int .i64 (k : Int), .bool true]) ∧ Below W.heap.size W w') := Lib.hid (fun W i => by
          have := pfind_any s x.id W HS.out i.ob
          rw [HF.out] at this
          exact this)
        obtain ⟨mm, hbo, hBM⟩ := ok_both HOK.out HS.out HX.out hx
        have HBM := Lib.hid hBM
        have HBC : Hid (∀ W, WrI s w W → Calls Try.prog 7 #[.agg (scC s), .int .i64 (k : Int)] W fun e w' => e = .returned (.tuple #[.agg (mC mm), .int .i64 0]) ∧ Below W.heap.size W w') := Lib.hid (fun W i => by
          have := pboth_any s (k : Int) W HS.out i.ob
          rw [hbo] at this
          exact this)
        have HVT : Hid (∀ (i : Nat) (v : List Int), x.vs[i]? = some v → BV 4 [v.getD 0 0, v.getD 1 0, v.getD 2 0, 65536]) := Lib.hid (fun i v hv => ok_vert HOK.out hx hv)
        clear hx e hbo hBM
        go_wp2_with fail
        generalize wr = V at HI ⊢
        rename_i K5 hK5
        refine (wpIn_wide (n := 5)).1 (give_region (S := fun X => WrI s w X) (Z := []) (by kernel_rfl) (by kernel_rfl) (fun _ _ h hb => WrI.up h hb) (fun d _ _ _ _ h => by cases d <;> exact h) (HI.out.up (bdrew0 _ _ 1)) (fun hG vw0 hw0 => ?_))
        refine give_pure [] 0 (.agg (scC s)) hG rfl (by kernel_rfl) hw0 (by kernel_rfl) ?_ ?_
        · intro wz hSw; exact exec_load_mid 28 (.tmp 1) (by kernel_rfl) w.heap.size 0 (by kernel_rfl) (scL s) _ hSw.sc.all Try.underlying28 (by kernel_rfl) hall.out
        intro vw1 hw1
        clear hw0 vw0
        (try simp only [Act.put, List.getElem_toArray, List.getElem_cons_zero, List.getElem_cons_succ, List.setIfInBounds_toArray, List.set_cons_zero, List.set_cons_succ])
        refine give_pure [] 1 (?_) hG rfl (by kernel_rfl) hw1 (by kernel_rfl) ?_ ?_
        rotate_left
        · intro wz hSw; (first | (go_simp; done) | (go_simp; with_reducible rfl))
        intro vw2 hw2
        clear hw1 vw1
        (try simp only [Act.put, List.getElem_toArray, List.getElem_cons_zero, List.getElem_cons_succ, List.setIfInBounds_toArray, List.set_cons_zero, List.set_cons_succ])
        refine give_pure [] 2 (.slice (some ⟨b, off, none⟩) n s.oc) hG rfl (by kernel_rfl) hw2 (by kernel_rfl) ?_ ?_
        · intro wz hSw; have c18 := hSw.sc.c18 HS.out; rw [EO.out, HN.out] at c18; (first | (go_simp; done) | (go_simp; with_reducible rfl))
        intro vw3 hw3
        clear hw2 vw2
        (try simp only [Act.put, List.getElem_toArray, List.getElem_cons_zero, List.getElem_cons_succ, List.setIfInBounds_toArray, List.set_cons_zero, List.set_cons_succ])
        refine give_pure [] 3 (?_) hG rfl (by kernel_rfl) hw3 (by kernel_rfl) ?_ ?_
        rotate_left
        · intro wz hSw; (first | (go_simp; done) | (go_simp; with_reducible rfl))
        intro vw4 hw4
        clear hw3 vw3
        (try simp only [Act.put, List.getElem_toArray, List.getElem_cons_zero, List.getElem_cons_succ, List.setIfInBounds_toArray, List.set_cons_zero, List.set_cons_succ])
        refine give_pure [] 4 (.pointer (some ⟨b, off + k * 19, none⟩)) hG rfl (by kernel_rfl) hw4 (by kernel_rfl) ?_ ?_
        · intro wz hSw; (first | (go_simp; done) | (go_simp; with_reducible rfl))
        intro vw5 hw5
        clear hw4 vw4
        (try simp only [Act.put, List.getElem_toArray, List.getElem_cons_zero, List.getElem_cons_succ, List.setIfInBounds_toArray, List.set_cons_zero, List.set_cons_succ])
        refine give_pure [] 5 (.pointer (some ⟨b, off + k * 19, none⟩)) hG rfl (by kernel_rfl) hw5 (by kernel_rfl) ?_ ?_
        · intro wz hSw; (first | (go_simp; done) | (go_simp; with_reducible rfl))
        intro vw6 hw6
        clear hw5 vw5
        (try simp only [Act.put, List.getElem_toArray, List.getElem_cons_zero, List.getElem_cons_succ, List.setIfInBounds_toArray, List.set_cons_zero, List.set_cons_succ])
        refine give_pure [] 6 (.int .i64 x.id) hG rfl (by kernel_rfl) hw6 (by kernel_rfl) ?_ ?_
        · intro wz hSw; have c0 := (HAT.out _ hSw.ob).c0; (first | (go_simp; done) | (go_simp; with_reducible rfl))
        intro vw7 hw7
        clear hw6 vw6
        (try simp only [Act.put, List.getElem_toArray, List.getElem_cons_zero, List.getElem_cons_succ, List.setIfInBounds_toArray, List.set_cons_zero, List.set_cons_succ])
        refine give_callS [] 7 9 #[.agg (scC s), .int .i64 x.id] (.tuple #[.int .i64 (k : Int), .bool true]) hG rfl (by kernel_rfl) hw7 (by kernel_rfl) ?_ (fun W hSw => HFC.out W hSw) ?_
        · intro wz; (first | (go_simp; done) | (go_simp; with_reducible rfl))
        intro vw8 hw8
        clear hw7 vw7
        (try simp only [Act.put, List.getElem_toArray, List.getElem_cons_zero, List.getElem_cons_succ, List.setIfInBounds_toArray, List.set_cons_zero, List.set_cons_succ])
        refine give_pure [] 8 (?_) hG rfl (by kernel_rfl) hw8 (by kernel_rfl) ?_ ?_
        rotate_left
        · intro wz hSw; (first | (go_simp; done) | (go_simp; with_reducible rfl))
        intro vw9 hw9
        clear hw8 vw8
        (try simp only [Act.put, List.getElem_toArray, List.getElem_cons_zero, List.getElem_cons_succ, List.setIfInBounds_toArray, List.set_cons_zero, List.set_cons_succ])
        refine give_pure [] 9 (?_) hG rfl (by kernel_rfl) hw9 (by kernel_rfl) ?_ ?_
        rotate_left
        · intro wz hSw; (first | (go_simp; done) | (go_simp; with_reducible rfl))
        intro vw10 hw10
        clear hw9 vw9
        (try simp only [Act.put, List.getElem_toArray, List.getElem_cons_zero, List.getElem_cons_succ, List.setIfInBounds_toArray, List.set_cons_zero, List.set_cons_succ])
        refine give_pure [] 10 (?_) hG rfl (by kernel_rfl) hw10 (by kernel_rfl) ?_ ?_
        rotate_left
        · intro wz hSw; (first | (go_simp; done) | (go_simp; with_reducible rfl))
        intro vw11 hw11
        clear hw10 vw10
        (try simp only [Act.put, List.getElem_toArray, List.getElem_cons_zero, List.getElem_cons_succ, List.setIfInBounds_toArray, List.set_cons_zero, List.set_cons_succ])
        refine give_pure [] 11 (?_) hG rfl (by kernel_rfl) hw11 (by kernel_rfl) ?_ ?_
        rotate_left
        · intro wz hSw; (first | (go_simp; done) | (go_simp; with_reducible rfl))
        intro vw12 hw12
        clear hw11 vw11
        (try simp only [Act.put, List.getElem_toArray, List.getElem_cons_zero, List.getElem_cons_succ, List.setIfInBounds_toArray, List.set_cons_zero, List.set_cons_succ])
        refine give_pure [] 12 (?_) hG rfl (by kernel_rfl) hw12 (by kernel_rfl) ?_ ?_
        rotate_left
        · intro wz hSw; (first | (go_simp; done) | (go_simp; with_reducible rfl))
        intro vw13 hw13
        clear hw12 vw12
        (try simp only [Act.put, List.getElem_toArray, List.getElem_cons_zero, List.getElem_cons_succ, List.setIfInBounds_toArray, List.set_cons_zero, List.set_cons_succ])
        refine give_done (by kernel_rfl) (?_) _
        refine hK5 _ _ ?_
        have HI3 := Lib.hid hw13
        clear hw13 hG HI hK5
        go_wp2_with (refine wpList_load_mid rfl 28 (.tmp 1) rfl w.heap.size 0 rfl (scL s) _ HI3.out.sc.all Try.underlying28 rfl hall.out ?_)
        refine (HBC.out _ HI3.out).mono ?_
        rintro e w4 ⟨rfl, hb⟩
        have HI4 := Lib.hid ((HI3.out.up hb).grow (.cells (mC mm) 25))
        have HR7 := Lib.hid (RowAt.new w4 25 (mC mm))
        have hUA := Lib.hid (show (Try.prog.info? 25).map (·.size) = some (mC mm).size by rw [size16, mC_size, HBM.out.1])
        have hUL := Lib.hid (show 16 = (mC mm).size by rw [mC_size, HBM.out.1])
        clear hb HI3 HBC HFC
        have c18 := HI4.out.sc.c18 HS.out
        rw [EO.out, HN.out] at c18
        have c17 := (HAT.out _ HI4.out.ob).c17
        have hvc := HX.out.vcap.1
        obtain ⟨m, hm⟩ : ∃ m, x.vs.length = m := ⟨_, rfl⟩
        have HM := Lib.hid hm
        rw [hm] at c17 hvc
        obtain ⟨vo, hvo⟩ : ∃ vo, x.vo = vo := ⟨_, rfl⟩
        have HVO2 := Lib.hid hvo
        rw [hvo] at c17
        clear hvo
        have m0 : (0 : Int) ≤ (m : Int) := by omega
        have m1 : (m : Int) ≤ 9223372036854775807 := by omega
        clear hm hvc
        go_wp2_with (refine wpList_store_new rfl 25 (.tmp 7) (.tmp 44) rfl w4.heap.size _ _ (mC mm) rfl rfl rfl hUA.out hUL.out (mC_one _) ?_)
        obtain ⟨V4, hV4⟩ : ∃ V, w4.alloc (.cells (mC mm) 25) = V := ⟨_, rfl⟩
        rw [hV4] at HI4 HR7 ⊢
        clear hV4 c17 c18
        generalize w4.heap.size = b7 at HR7 ⊢
        go_loopg [64] m (BvRel s mm b7 w m)
        case atStart => exact ⟨0, rfl, rfl, by omega, HI4.out, HR7.out⟩
        case round =>
          obtain ⟨i, hg, rfl, hi, hW, h7⟩ := hrel
          have HI := Lib.hid hW
          have H7 := Lib.hid h7
          subst hg
          clear hW h7 HI4 HR7
          have i0 : (0 : Int) ≤ (i : Int) := by omega
          by_cases him : i < m
          · have t2 : (i : Int) < (m : Int) := by omega
            obtain ⟨v, hv⟩ : ∃ v, x.vs[i]? = some v := ⟨_, List.getElem?_eq_getElem (by rw [HM.out]; exact him)⟩
            obtain ⟨bv, ov, ev, hrv, hwv⟩ := (HAT.out _ HI.out.ob).verts i v hv
            have HRV := Lib.hid hrv
            have HVL := Lib.hid hwv.len
            have HV3 := Lib.hid (sizeV hwv.len)
            have HBV := Lib.hid (HVT.out i v hv)
            rw [HVO2.out] at ev
            clear hrv hwv hv HVO2
            subst ev
            obtain ⟨V5, hV5⟩ : ∃ V, wr.alloc (.cells (v.map encI).toArray 47) = V := ⟨_, rfl⟩
            have HI5 : Hid (WrI s w V5) := Lib.hid (by rw [← hV5]; exact HI.out.grow _)
            have H75 : Hid (RowAt 25 b7 (mC mm) V5) := Lib.hid (by rw [← hV5]; exact H7.out.alloc _)
            have H10 : RowAt 47 wr.heap.size (v.map encI).toArray V5 := by rw [← hV5]; exact RowAt.new _ _ _
            have d0 : V5.cell? ⟨wr.heap.size, 0, none⟩ = some (.int .i64 (v.getD 0 0)) := by
              rw [cell_of_row _ _ _ _ _ _ H10]
              simp [List.getD_eq_getElem?_getD, List.getElem?_eq_getElem (show 0 < v.length by rw [HVL.out]; omega), encI]
            have d1 : V5.cell? ⟨wr.heap.size, 1, none⟩ = some (.int .i64 (v.getD 1 0)) := by
              rw [cell_of_row _ _ _ _ _ _ H10]
              simp [List.getD_eq_getElem?_getD, List.getElem?_eq_getElem (show 1 < v.length by rw [HVL.out]; omega), encI]
            have d2 : V5.cell? ⟨wr.heap.size, 2, none⟩ = some (.int .i64 (v.getD 2 0)) := by
              rw [cell_of_row _ _ _ _ _ _ H10]
              simp [List.getD_eq_getElem?_getD, List.getElem?_eq_getElem (show 2 < v.length by rw [HVL.out]; omega), encI]
            have HV5 := Lib.hid hV5
            have HVA := Lib.hid (show (Try.prog.info? 47).map (·.size) = some (v.map encI).toArray.size by rw [List.size_toArray]; exact HV3.out)
            have HVS := Lib.hid (show 3 = (v.map encI).toArray.size by rw [List.size_toArray, List.length_map, HVL.out])
            have HVO := Lib.hid (mC_one v)
            have HAP := Lib.hid (apply_any mm [v.getD 0 0, v.getD 1 0, v.getD 2 0, 65536] V5 HBM.out.1 rfl)
            unfold RetV at HAP
            rw [ap_small HBM.out HBV.out] at HAP
            have HNUM := Lib.hid (fun r hr => ap_num HBM.out HBV.out r hr)
            clear H10 hV5
            generalize v.getD 0 0 = p0 at *
            generalize v.getD 1 0 = p1 at *
            generalize v.getD 2 0 = p2 at *
            obtain ⟨q, hq⟩ : ∃ q, apRows mm [p0, p1, p2, 65536] = q := ⟨_, rfl⟩
            have HQL : Hid (q.length = 4) := Lib.hid (by rw [← hq]; rfl)
            have HAP2 : Hid (Calls Try.prog 20 #[.agg (mC mm), .agg #[.int .i64 p0, .int .i64 p1, .int .i64 p2, .int .i64 65536]] V5 fun e w' => e = .returned (.tuple #[.agg (mC q), .int .i64 0]) ∧ Below V5.heap.size V5 w') := Lib.hid (by rw [← hq]; exact HAP.out)
            rw [hq] at HNUM
            clear hq HAP HVT HBV
            go_wp2_with (first | (rw [HV5.out]) | (refine wpList_load_mid rfl 47 (.tmp 66) rfl bv (ov + i * 3) rfl (v.map encI) _ HRV.out Try.underlying47 rfl HV3.out ?_) | (refine wpList_store_new rfl 47 (.tmp 10) (.tmp 67) rfl wr.heap.size _ _ (v.map encI).toArray rfl rfl rfl HVA.out HVS.out HVO.out ?_) | (refine wpList_load_row rfl 25 (.tmp 7) rfl b7 rfl _ _ _ _ H75.out Try.underlying25 rfl hUA.out ?_) | (refine wpList_build_to rfl 23 _ rfl #[.int .i64 p0, .int .i64 p1, .int .i64 p2, .int .i64 65536] (by kernel_rfl) ?_))
            refine HAP2.out.mono ?_
            rintro e w6 ⟨rfl, hb⟩
            have HI6 := Lib.hid ((HI5.out.up hb).grow (.cells (mC q) 23))
            have H76 : Hid (RowAt 25 b7 (mC mm) (w6.alloc (.cells (mC q) 23))) := Lib.hid ((H75.out.below hb).alloc _)
            have H11 : RowAt 23 w6.heap.size (mC q) (w6.alloc (.cells (mC q) 23)) := RowAt.new _ _ _
            have HQA := Lib.hid (show (Try.prog.info? 23).map (·.size) = some (mC q).size by rw [mC_size, HQL.out]; kernel_rfl)
            have HQS := Lib.hid (show 4 = (mC q).size by rw [mC_size, HQL.out])
            have HCELL : Hid (∀ j, j < 4 → (w6.alloc (.cells (mC q) 23)).cell? ⟨w6.heap.size, j, none⟩ = some (.int .i64 (q.getD j 0))) := Lib.hid (fun j hj => by rw [cell_of_row _ _ _ _ _ _ H11, mC_at _ _ (by rw [HQL.out]; exact hj)])
            clear hb H11 d0 d1 d2 HI5 H75 HAP2
            go_wp2_with (refine wpList_store_new rfl 23 (.tmp 11) (.tmp 78) rfl w6.heap.size _ _ (mC q) rfl rfl rfl HQA.out HQS.out (mC_one _) ?_)
            obtain ⟨V6, hV6⟩ : ∃ V, w6.alloc (.cells (mC q) 23) = V := ⟨_, rfl⟩
            rw [hV6] at HI6 H76 HCELL ⊢
            clear hV6
            generalize w6.heap.size = b11 at HCELL ⊢
            go_loop [13] (fun u => ∃ j : Nat, u = .int .i64 (j : Int) ∧ j ≤ 4) (fun u => 4 - (intOf u).toNat)
            case atStart => exact ⟨0, rfl, by omega⟩
            case round =>
              obtain ⟨j, rfl, hj⟩ := hrel
              have j0 : (0 : Int) ≤ (j : Int) := by omega
              by_cases hj4 : j < 4
              · have t3 : (j : Int) < 4 := by omega
                have c := HCELL.out j hj4
                obtain ⟨q1, q2⟩ := HNUM.out j hj4
                generalize q.getD j 0 = z at c q1 q2
                have t4 : ¬ (8796093022208 : Int) ≤ z := by omega
                have t5 : ¬ z ≤ (-8796093022208 : Int) := by omega
                clear q1 q2
                go_wp2_with fail
                go_round
                case rel => exact ⟨j + 1, by go_num, by omega⟩
                case measure => simp [intOf]; omega
              · obtain rfl : j = 4 := by omega
                have t3 : ¬ ((4 : Nat) : Int) < 4 := by omega
                go_wp2_with fail
                go_roundg (m - (i + 1))
                case measure => omega
                case rel => exact ⟨i + 1, rfl, by go_num, by omega, HI6.out, H76.out⟩
          · obtain rfl : i = m := by omega
            have t2 : ¬ (i : Int) < (i : Int) := by omega
            go_wp2_with fail
            go_roundg (n - (k + 1))
            case measure => omega
            case rel => exact ⟨k + 1, rfl, by go_num, by omega, HI.out⟩
      · obtain rfl : k = n := by omega
        have t1 : ¬ (k : Int) < (k : Int) := by omega
        go_wp2_with fail
        go_ret
        exact ⟨rfl, HI.out.bel⟩
end Go.Proofs.Ytbkahmnchpbhfaa.Fx
