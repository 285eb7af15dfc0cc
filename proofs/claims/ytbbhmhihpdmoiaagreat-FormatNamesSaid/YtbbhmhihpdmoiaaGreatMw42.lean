import Derived.Laws.Rows
import Derived.Test.YtbbhmhihpdmoiaaGreatProg
import Derived.Test.YtbbhmhihpdmoiaaGreatMw22
import Derived.Test.YtbbhmhihpdmoiaaGreatMw27
import Derived.Test.YtbbhmhihpdmoiaaGreatMw29
import Derived.Test.YtbbhmhihpdmoiaaGreatMw41
set_option linter.unusedVariables false
set_option linter.unusedSimpArgs false
namespace Go.Proofs.YtbbhmhihpdmoiaaGreat.Fx
open Go Go.RowKit Go.Lib
open Go.Proofs.YtbbhmhihpdmoiaaGreat.Pk (Bs By cutA)
def oneS : ScR := ⟨1, 1, zero16, none, [], 0⟩
def oneK : KeyS := (1, 1, zero16, [])
theorem oneS_key : keyS oneS = oneK := rfl
theorem oneS_wf : ScWf oneS := ⟨⟨by decide, by decide⟩, ⟨by decide, by decide⟩, rfl, zeroS_wf.num, zeroS_wf.cap⟩
theorem oneS_at (W : World) : ObjsAt W none [] := fun k z hk => by simp at hk
theorem oneS_ok : okZ oneS = true := by kernel_rfl
theorem oneK_ok : okK oneK = true := by rw [← oneS_key, ← ok_key]; exact oneS_ok
theorem oneK_d (W : World) : dSc oneK := ok_dSc (s := oneS) (W := W) oneS_wf (oneS_at W) oneS_ok
theorem one_len : (bytesK oneK).length = 27 := by kernel_rfl
theorem one_take : (bytesK oneK).take 23 = [109, 117, 108, 49, 1, 1] ++ List.replicate 17 0 := by kernel_rfl
theorem one_enc : encO oneS = some (bytesK oneK) := by unfold encO; rw [oneS_ok]; rfl
theorem one_by (W : World) : By (bytesK oneK) := by
 unfold By
 intro c hc
 exact (List.all_eq_true.1 (show (bytesK oneK).all (fun c => decide (c < 256)) = true by kernel_rfl) c hc) |> of_decide_eq_true
theorem exec_high {o : Oper} {a : Act} {W : World} (x y : Operand) (ho : o.op = .slice 31 x none (some y) none) (oa : Option Addr) (n c h : Nat) (j : Int) (hj : j = (h : Int)) (hx : a.eval x = .slice oa n c) (hy : a.eval y = .int .i64 j)
  (hh : h ≤ c) (hn : oa = none → c = 0) (hs : 0 < c → ∀ a, oa = some a → a.spot = none) :
  (execOp a.eval o).run Tryz.prog W = .ok (.value (.slice (cutA oa c 0) h c)) W := by
 subst hj
 have ht' : Tryz.prog.underlying 31 = some (.slice (Tryz.prog.elem 31)) := by simp [Program.elem, Tryz.underlying31]
 have h1 := Pk.run_cut W oa n c 0 h (Nat.zero_le _) hh hn hs
 have h2 := run_slice_h W 31 oa n c ht' .i64 (h : Int) (by omega) (by omega)
 have h3 := run_slice_lh W 31 oa n c ht' .i64 .i64 ((0 : Nat) : Int) (h : Int) (by omega) (by omega) (by omega)
 have h4 : (Instr.slice 31 (.slice oa n c) none (some (.int .i64 (h : Int))) none).run Tryz.prog W = .ok (.slice (cutA oa c 0) h c) W := by
  have e : (Instr.slice 31 (.slice oa n c) none (some (.int .i64 (h : Int))) none).run Tryz.prog W = (Instr.slice 31 (.slice oa n c) (some (.int .i64 ((0 : Nat) : Int))) (some (.int .i64 (h : Int))) none).run Tryz.prog W := by
   rw [h2, h3]
   simp
  rw [e, h1]
  simp
 unfold execOp
 simp only [ho, hx, hy, Option.map_some, Option.map_none, Sem.run_bind, run_sliceAt_slice W 31 _ _ _ _ ht', h4, Result.andThen_ok, Sem.run_pure]
theorem exec_conv {o : Oper} {a : Act} {W : World} (src dst : TypeId) (x : Operand) (ho : o.op = .convert src dst x) (vx v : Value) (hx : a.eval x = vx) (hrun : (convert src dst vx).run Tryz.prog W = .ok v W) :
  (execOp a.eval o).run Tryz.prog W = .ok (.value v) W := by
 unfold execOp
 simp only [ho, hx, Sem.run_bind, hrun, Result.andThen_ok, Sem.run_pure]
theorem wpIn_conv {n : Nat} {o : Oper} {a : Act} {w : World} {K : Act → World → Prop} {Q : Exit → Act → World → Prop} (src dst : TypeId) (x : Operand) (ho : o.op = .convert src dst x) (v : Value) (hrun : (execOp a.eval o).run Tryz.prog w = .ok (.value v) w)
  (h : K (a.put o.dst v) w) : Oper.wpIn Fence.wide n Tryz.prog o a w K Q := by
 unfold Oper.wpIn
 refine ⟨fun f _ => trivial, ?_⟩
 rw [Oper.semAt_plain _ _ _ (by rw [ho]; intro c hc'; cases hc'), hrun]
 exact h
set_option maxRecDepth 100000 in
set_option maxHeartbeats 8000000 in
theorem alive7_any (w : World) : Calls Tryz.prog 29 #[] w (RetBool true w) := by
 obtain ⟨A1, hA1⟩ : ∃ V, w.alloc (.cells #[.int .i64 0, .int .i64 0, .int .i64 0, .int .i64 0, .int .i64 0, .int .i64 0, .int .i64 0, .int .i64 0, .int .i64 0, .int .i64 0, .int .i64 0, .int .i64 0, .int .i64 0, .int .i64 0, .int .i64 0, .int .i64 0, .int .i64 0, .int .i64 0, .slice none 0 0] 28) = V := ⟨_, rfl⟩
 obtain ⟨A2, hA2⟩ : ∃ V, A1.setRow w.heap.size (scC oneS) = V := ⟨_, rfl⟩
 have r1 : RowAt 28 w.heap.size #[.int .i64 0, .int .i64 0, .int .i64 0, .int .i64 0, .int .i64 0, .int .i64 0, .int .i64 0, .int .i64 0, .int .i64 0, .int .i64 0, .int .i64 0, .int .i64 0, .int .i64 0, .int .i64 0, .int .i64 0, .int .i64 0, .int .i64 0, .int .i64 0, .slice none 0 0] A1 := by rw [← hA1]; exact RowAt.new _ _ _
 have r2 : A2.heap[w.heap.size]? = some (.cells (scC oneS) 28 (0, 0)) := by rw [← hA2]; exact setRow_heap _ _ _ _ _ _ r1
 have b2 : Below w.heap.size w A2 := by rw [← hA2, ← hA1]; exact Below.row ((Below.refl _ _).alloc (Nat.le_refl _) _) (Nat.le_refl _) _
 have HEN := Lib.hid (show Calls Tryz.prog 12 #[.agg (scC oneS)] A2 (RetEn (some (bytesK oneK)) A2) from one_enc ▸ pencode_any oneS A2 oneS_wf (oneS_at _))
 have HX : Hid (A2.rangeAt w.heap.size 0 (scL oneS)) := Lib.hid (fun j u hj => by rw [cell_of_row _ _ _ _ _ _ r2, Nat.zero_add]; show (scL oneS).toArray[j]? = some u; simpa using hj)
 have hi1 := Lib.hid (show (Tryz.prog.info? 28).map (·.size) = some (scL oneS).length by kernel_rfl)
 have hi2 := Lib.hid (show (Tryz.prog.info? 28).map (·.size) = some (scC oneS).size by kernel_rfl)
 have hs2 := Lib.hid (show 19 = (scC oneS).size from rfl)
 have ho2 := Lib.hid (show (scC oneS).all (·.oneCell') = true from twL_one oneS (.slice none 0 0) rfl)
 have HR1 := Lib.hid r1
 have HR2 := Lib.hid r2
 have HB2 := Lib.hid b2
 have HA1 := Lib.hid hA1
 have HA2 := Lib.hid hA2
 have HBY := Lib.hid (one_by w)
 have HTK := Lib.hid one_take
 have HLN := Lib.hid one_len
 have HDE := Lib.hid (show decK (bytesK oneK) = (some oneK, 0) by rw [dec_bytes (oneK_d w), if_pos oneK_ok])
 obtain ⟨L, hL⟩ : ∃ L, bytesK oneK = L := ⟨_, rfl⟩
 rw [hL] at HEN HBY HTK HLN HDE
 clear r1 r2 b2 hA1 hA2 hL
 unfold RetEn erE at HEN
 simp only [Option.isSome_some, if_true, Option.getD_some] at HEN
 go_enter Tryz.func29, Tryz.ntmps29
 go_wp2_with (first | (rw [HA1.out]) | (with_reducible refine stop_at (some 6) rfl ?_; refine Lib.hid ?_; refine wpList_valX rfl (.agg (scC oneS)) w (by kernel_rfl) ?_) | (refine wpList_store_big rfl 28 (.tmp 1) (.tmp 6) rfl w.heap.size _ _ (scC oneS) rfl rfl HR1.out hi2.out hs2.out ho2.out ?_) | (rw [HA2.out]) | (with_reducible refine stop_at (some 8) rfl ?_; refine Lib.hid ?_; refine wpList_load_mid rfl 28 (.tmp 1) rfl w.heap.size 0 rfl (scL oneS) _ HX.out Tryz.underlying28 rfl hi1.out ?_))
 refine HEN.out.mono ?_
 rintro e w3 ⟨⟨v3, rfl, hown3⟩, hb3⟩
 obtain ⟨o3, c3, rfl, hbs3, hc3, hc3m, hn3, hsp3⟩ := hown3.open
 have HPD := Lib.hid (pdecode_any L o3 c3 w3 HBY.out (by have := HLN.out; omega) hc3 hc3m hbs3)
 rw [HLN.out] at HPD
 have HBS3 := Lib.hid hbs3
 have HC3 := Lib.hid hc3
 have HN3 := Lib.hid (show o3 = none → c3 = 0 from hn3)
 have HSP3 := Lib.hid (show 0 < c3 → ∀ a, o3 = some a → a.spot = none from fun _ a ha => by obtain ⟨g, rfl, _⟩ := hsp3 a ha; rfl)
 have HB3 := Lib.hid (bnext HB2.out hb3)
 have HR3 := Lib.hid (show RowAt 28 w.heap.size (scC oneS) w3 from keep_row hb3 HR2.out)
 unfold RetDe at HPD
 rw [HDE.out] at HPD
 rw [HLN.out]
 clear hown3 hbs3 hc3 hc3m hn3 hsp3 hb3 HEN HX HR1 HR2 HB2 HA1 HA2 HDE
 go_wp2_with fail
 refine HPD.out.mono ?_
 rintro e w4 ⟨⟨t, rfl, hfr, hkey⟩, hb4⟩
 obtain ⟨A5, hA5⟩ : ∃ V, w4.alloc (.cells #[.int .i64 0, .int .i64 0, .int .i64 0, .int .i64 0, .int .i64 0, .int .i64 0, .int .i64 0, .int .i64 0, .int .i64 0, .int .i64 0, .int .i64 0, .int .i64 0, .int .i64 0, .int .i64 0, .int .i64 0, .int .i64 0, .int .i64 0, .int .i64 0, .slice none 0 0] 28) = V := ⟨_, rfl⟩
 obtain ⟨A6, hA6⟩ : ∃ V, A5.setRow w4.heap.size (scC t) = V := ⟨_, rfl⟩
 have r5 : RowAt 28 w4.heap.size #[.int .i64 0, .int .i64 0, .int .i64 0, .int .i64 0, .int .i64 0, .int .i64 0, .int .i64 0, .int .i64 0, .int .i64 0, .int .i64 0, .int .i64 0, .int .i64 0, .int .i64 0, .int .i64 0, .int .i64 0, .int .i64 0, .int .i64 0, .int .i64 0, .slice none 0 0] A5 := by rw [← hA5]; exact RowAt.new _ _ _
 have r6 : RowAt 28 w4.heap.size (scC t) A6 := by rw [← hA6]; exact setRow_heap _ _ _ _ _ _ r5
 have b6 : Below w4.heap.size w4 A6 := by rw [← hA6, ← hA5]; exact Below.row ((Below.refl _ _).alloc (Nat.le_refl _) _) (Nat.le_refl _) _
 have b36 := bnext hb4 b6
 have HR6 := Lib.hid r6
 have HR5 := Lib.hid r5
 have HR1 := Lib.hid (show RowAt 28 w.heap.size (scC oneS) A6 from keep_row b36 HR3.out)
 have HB6 := Lib.hid (bnext HB3.out b36)
 have HFR := Lib.hid (show FreshS w3.heap.size t A6 from hfr.rows (Rows.of_below b6) (Rows.of_below b6) (Rows.of_below b6))
 have HBS := Lib.hid (HBS3.out.below b36)
 have HKEY := Lib.hid (show keyS t = oneK from hkey)
 have hi5 := Lib.hid (sizeZ t hfr.wf (.slice t.oo t.os.length t.oc))
 have hs5 := Lib.hid (show 19 = (scC t).size from (twL_len hfr.wf (.slice t.oo t.os.length t.oc)).symm)
 have ho5 := Lib.hid (show (scC t).all (·.oneCell') = true from twL_one t (.slice t.oo t.os.length t.oc) rfl)
 have HA5 := Lib.hid hA5
 have HA6 := Lib.hid hA6
 clear r5 r6 b6 b36 hfr hkey hb4 hA5 hA6 HPD HBS3 HB3 HR3
 go_wp2_with (first | (rw [HA5.out]) | (refine wpList_store_big rfl 28 (.tmp 4) (.tmp 15) rfl w4.heap.size _ _ (scC t) rfl rfl HR5.out hi5.out hs5.out ho5.out ?_) | (rw [HA6.out]))
 clear hi1 hs2 ho2 hs5 ho5 HA5 HA6 HR5
 obtain ⟨Lb, hLb⟩ : ∃ Lb, [109, 117, 108, 49, 1, 1] ++ List.replicate 17 0 = Lb := ⟨_, rfl⟩
 rw [hLb] at HTK
 have HLB := Lib.hid hLb
 have HLL := Lib.hid (show Lb.length = 23 by rw [← hLb]; rfl)
 obtain ⟨sx, hsx⟩ : ∃ sx, Pk.bstr Lb = sx := ⟨_, rfl⟩
 have HSX := Lib.hid hsx
 have HCV : Hid (∀ X, Below A6.heap.size A6 X → (convert 31 9 (.slice (cutA o3 c3 0) 23 c3)).run Tryz.prog X = .ok (.string sx) X) := Lib.hid (fun X hX => by
  have hb := Pk.Bs.cut (l := 0) (h := 23) (HBS.out.below hX) (Nat.zero_le _) (by rw [HLN.out]; omega) HC3.out
  rw [List.drop_zero, show 23 - 0 = 23 from rfl, HTK.out] at hb
  have := Pk.conv_bs c3 HLL.out hb
  rw [← HSX.out]
  exact this)
 have HBA : Hid (∀ X, Calls Tryz.prog 28 #[.int .u8 1] X (RetBs Lb X)) := Lib.hid (fun X => by rw [← HLB.out]; exact bare_any 1 (by omega) X)
 have HSM : Hid (∀ X, Below A6.heap.size A6 X → Calls Tryz.prog 15 #[.agg (scC oneS), .agg (scC t)] X fun e w' => e = .returned (.bool true) ∧ Below X.heap.size X w') := Lib.hid (fun X hX => by
  have hf := HFR.out.rows (Rows.of_below hX) (Rows.of_below hX) (Rows.of_below hX)
  have := zsame_any oneS t X oneS_wf hf.wf (oneS_at _) hf.at
  rw [decide_eq_true ((keyS_same oneS t).2 (by rw [HKEY.out]; rfl))] at this
  exact this)
 have HC23 := Lib.hid (show 23 ≤ c3 by have := HC3.out; have := HLN.out; omega)
 clear hLb hsx HTK HLN HBY HC3 HBS HKEY HFR
 rename_i K3 hK3
 refine (wpIn_wide (n := 5)).1 (give_region (S := fun X => Below A6.heap.size A6 X) (Z := []) (by kernel_rfl) (by kernel_rfl) below_mono (fun d _ _ _ _ h => by cases d <;> exact h) (bdrew0 _ _ 1) (fun hG vw0 hw0 => ?_))
 refine give_pure [] 0 (?_) hG rfl (by kernel_rfl) hw0 (by kernel_rfl) ?_ ?_
 rotate_left
 ·intro wz hSw; (first | (go_simp; done) | (go_simp; with_reducible rfl))
 intro vw1 hw1
 clear hw0 vw0
 (try simp only [Act.put, List.getElem_toArray, List.getElem_cons_zero, List.getElem_cons_succ, List.setIfInBounds_toArray, List.set_cons_zero, List.set_cons_succ])
 refine give_pure [] 1 (?_) hG rfl (by kernel_rfl) hw1 (by kernel_rfl) ?_ ?_
 rotate_left
 ·intro wz hSw; (first | (go_simp; done) | (go_simp; with_reducible rfl))
 intro vw2 hw2
 clear hw1 vw1
 (try simp only [Act.put, List.getElem_toArray, List.getElem_cons_zero, List.getElem_cons_succ, List.setIfInBounds_toArray, List.set_cons_zero, List.set_cons_succ])
 refine give_pure [] 2 (?_) hG rfl (by kernel_rfl) hw2 (by kernel_rfl) ?_ ?_
 rotate_left
 ·intro wz hSw; (first | (go_simp; done) | (go_simp; with_reducible rfl))
 intro vw3 hw3
 clear hw2 vw2
 (try simp only [Act.put, List.getElem_toArray, List.getElem_cons_zero, List.getElem_cons_succ, List.setIfInBounds_toArray, List.set_cons_zero, List.set_cons_succ])
 refine give_pure [] 3 (?_) hG rfl (by kernel_rfl) hw3 (by kernel_rfl) ?_ ?_
 rotate_left
 ·intro wz hSw; (first | (go_simp; done) | (go_simp; with_reducible rfl))
 intro vw4 hw4
 clear hw3 vw3
 (try simp only [Act.put, List.getElem_toArray, List.getElem_cons_zero, List.getElem_cons_succ, List.setIfInBounds_toArray, List.set_cons_zero, List.set_cons_succ])
 refine give_pure [] 4 (?_) hG rfl (by kernel_rfl) hw4 (by kernel_rfl) ?_ ?_
 rotate_left
 ·intro wz hSw; (first | (go_simp; done) | (go_simp; with_reducible rfl))
 intro vw5 hw5
 clear hw4 vw4
 (try simp only [Act.put, List.getElem_toArray, List.getElem_cons_zero, List.getElem_cons_succ, List.setIfInBounds_toArray, List.set_cons_zero, List.set_cons_succ])
 refine give_pure [] 5 (?_) hG rfl (by kernel_rfl) hw5 (by kernel_rfl) ?_ ?_
 rotate_left
 ·intro wz hSw; (first | (go_simp; done) | (go_simp; with_reducible rfl))
 intro vw6 hw6
 clear hw5 vw5
 (try simp only [Act.put, List.getElem_toArray, List.getElem_cons_zero, List.getElem_cons_succ, List.setIfInBounds_toArray, List.set_cons_zero, List.set_cons_succ])
 refine give_pure [] 6 (?_) hG rfl (by kernel_rfl) hw6 (by kernel_rfl) ?_ ?_
 rotate_left
 ·intro wz hSw; (first | (go_simp; done) | (go_simp; with_reducible rfl))
 intro vw7 hw7
 clear hw6 vw6
 (try simp only [Act.put, List.getElem_toArray, List.getElem_cons_zero, List.getElem_cons_succ, List.setIfInBounds_toArray, List.set_cons_zero, List.set_cons_succ])
 refine give_pure [] 7 (?_) hG rfl (by kernel_rfl) hw7 (by kernel_rfl) ?_ ?_
 rotate_left
 ·intro wz hSw; (first | (go_simp; done) | (go_simp; with_reducible rfl))
 intro vw8 hw8
 clear hw7 vw7
 (try simp only [Act.put, List.getElem_toArray, List.getElem_cons_zero, List.getElem_cons_succ, List.setIfInBounds_toArray, List.set_cons_zero, List.set_cons_succ])
 refine give_pure [] 8 (?_) hG rfl (by kernel_rfl) hw8 (by kernel_rfl) ?_ ?_
 rotate_left
 ·intro wz hSw; (first | (go_simp; done) | (go_simp; with_reducible rfl))
 intro vw9 hw9
 clear hw8 vw8
 (try simp only [Act.put, List.getElem_toArray, List.getElem_cons_zero, List.getElem_cons_succ, List.setIfInBounds_toArray, List.set_cons_zero, List.set_cons_succ])
 refine give_pure [] 9 (.slice (cutA o3 c3 0) 23 c3) hG rfl (by kernel_rfl) hw9 (by kernel_rfl) ?_ ?_
 ·intro wz hSw; exact exec_high (.tmp 25) (.const (.int .i64 23)) (by kernel_rfl) o3 27 c3 23 23 rfl (by kernel_rfl) (by kernel_rfl) HC23.out HN3.out HSP3.out
 intro vw10 hw10
 clear hw9 vw9
 (try simp only [Act.put, List.getElem_toArray, List.getElem_cons_zero, List.getElem_cons_succ, List.setIfInBounds_toArray, List.set_cons_zero, List.set_cons_succ])
 refine give_pure [] 10 (.string sx) hG rfl (by kernel_rfl) hw10 (by kernel_rfl) ?_ ?_
 ·intro wz hSw; exact exec_conv 31 9 (.tmp 26) (by kernel_rfl) (.slice (cutA o3 c3 0) 23 c3) _ (by kernel_rfl) (HCV.out _ hSw)
 intro vw11 hw11
 clear hw10 vw10
 (try simp only [Act.put, List.getElem_toArray, List.getElem_cons_zero, List.getElem_cons_succ, List.setIfInBounds_toArray, List.set_cons_zero, List.set_cons_succ])
 refine give_step 11 (by kernel_rfl) rfl (fun K hK => ?_)
 rw [if_pos (by kernel_rfl)]
 refine wpIn_call_any 28 #[.int .u8 1] (by first | (go_simp; done) | (go_simp; with_reducible rfl)) _ _ _ rfl (HBA.out _) (fun e wb hp => ?_)
 obtain ⟨⟨v9, rfl, hown9⟩, hb9⟩ := hp
 obtain ⟨o9, c9, rfl, hbs9, _⟩ := hown9.open
 rw [HLL.out]
 have hS9 : Below A6.heap.size A6 wb := bnext hw11 hb9
 refine ⟨_, rfl, hK.out _ _ (fun _ => hS9) (fun vwa hbn => ?_)⟩
 have hSa := below_mono _ _ hS9 hbn
 have hbsa := hbs9.below hbn
 clear hK K
 (try simp only [Act.put, List.getElem_toArray, List.getElem_cons_zero, List.getElem_cons_succ, List.setIfInBounds_toArray, List.set_cons_zero, List.set_cons_succ])
 refine give_step 12 (by kernel_rfl) rfl (fun K hK => ?_)
 rw [if_pos (by kernel_rfl)]
 refine wpIn_conv 31 9 (.tmp 28) (by kernel_rfl) (.string sx) (exec_conv 31 9 (.tmp 28) (by kernel_rfl) (.slice o9 23 c9) _ (by kernel_rfl) (by rw [← HSX.out]; exact Pk.conv_bs c9 HLL.out hbsa)) ?_
 refine hK.out _ _ (fun _ => hSa) (fun vwb hbn2 => ?_)
 have hSb := below_mono _ _ hSa hbn2
 clear hbn2
 clear hK K
 (try simp only [Act.put, List.getElem_toArray, List.getElem_cons_zero, List.getElem_cons_succ, List.setIfInBounds_toArray, List.set_cons_zero, List.set_cons_succ])
 refine give_pure [] 13 (?_) hG rfl (by kernel_rfl) hSb (by kernel_rfl) ?_ ?_
 rotate_left
 ·intro wz hSw; (first | (go_simp; done) | (go_simp; with_reducible rfl))
 intro vw12 hw12
 clear hSb vwb
 (try simp only [Act.put, List.getElem_toArray, List.getElem_cons_zero, List.getElem_cons_succ, List.setIfInBounds_toArray, List.set_cons_zero, List.set_cons_succ])
 refine give_pure [] 14 (?_) hG rfl (by kernel_rfl) hw12 (by kernel_rfl) ?_ ?_
 rotate_left
 ·intro wz hSw; (first | (go_simp; done) | (go_simp; with_reducible rfl))
 intro vw13 hw13
 clear hw12 vw12
 (try simp only [Act.put, List.getElem_toArray, List.getElem_cons_zero, List.getElem_cons_succ, List.setIfInBounds_toArray, List.set_cons_zero, List.set_cons_succ])
 refine give_pure [] 15 (?_) hG rfl (by kernel_rfl) hw13 (by kernel_rfl) ?_ ?_
 rotate_left
 ·intro wz hSw; (first | (go_simp; done) | (go_simp; with_reducible rfl))
 intro vw14 hw14
 clear hw13 vw13
 (try simp only [Act.put, List.getElem_toArray, List.getElem_cons_zero, List.getElem_cons_succ, List.setIfInBounds_toArray, List.set_cons_zero, List.set_cons_succ])
 refine give_pure [] 16 (?_) hG rfl (by kernel_rfl) hw14 (by kernel_rfl) ?_ ?_
 rotate_left
 ·intro wz hSw; (first | (go_simp; done) | (go_simp; with_reducible rfl))
 intro vw15 hw15
 clear hw14 vw14
 (try simp only [Act.put, List.getElem_toArray, List.getElem_cons_zero, List.getElem_cons_succ, List.setIfInBounds_toArray, List.set_cons_zero, List.set_cons_succ])
 refine give_pure [] 17 (?_) hG rfl (by kernel_rfl) hw15 (by kernel_rfl) ?_ ?_
 rotate_left
 ·intro wz hSw; (first | (go_simp; done) | (go_simp; with_reducible rfl))
 intro vw16 hw16
 clear hw15 vw15
 (try simp only [Act.put, List.getElem_toArray, List.getElem_cons_zero, List.getElem_cons_succ, List.setIfInBounds_toArray, List.set_cons_zero, List.set_cons_succ])
 refine give_pure [] 18 (?_) hG rfl (by kernel_rfl) hw16 (by kernel_rfl) ?_ ?_
 rotate_left
 ·intro wz hSw; (first | (go_simp; done) | (go_simp; with_reducible rfl))
 intro vw17 hw17
 clear hw16 vw16
 (try simp only [Act.put, List.getElem_toArray, List.getElem_cons_zero, List.getElem_cons_succ, List.setIfInBounds_toArray, List.set_cons_zero, List.set_cons_succ])
 refine give_pure [] 19 (?_) hG rfl (by kernel_rfl) hw17 (by kernel_rfl) ?_ ?_
 rotate_left
 ·intro wz hSw; (first | (go_simp; done) | (go_simp; with_reducible rfl))
 intro vw18 hw18
 clear hw17 vw17
 (try simp only [Act.put, List.getElem_toArray, List.getElem_cons_zero, List.getElem_cons_succ, List.setIfInBounds_toArray, List.set_cons_zero, List.set_cons_succ])
 refine give_pure [] 20 (.agg (scC oneS)) hG rfl (by kernel_rfl) hw18 (by kernel_rfl) ?_ ?_
 ·intro wz hSw; exact exec_load_row 28 (.tmp 1) (by kernel_rfl) w.heap.size (by kernel_rfl) _ _ _ _ (HR1.out.below hSw) Tryz.underlying28 (by kernel_rfl) hi2.out
 intro vw19 hw19
 clear hw18 vw18
 (try simp only [Act.put, List.getElem_toArray, List.getElem_cons_zero, List.getElem_cons_succ, List.setIfInBounds_toArray, List.set_cons_zero, List.set_cons_succ])
 refine give_pure [] 21 (.agg (scC t)) hG rfl (by kernel_rfl) hw19 (by kernel_rfl) ?_ ?_
 ·intro wz hSw; exact exec_load_row 28 (.tmp 4) (by kernel_rfl) w4.heap.size (by kernel_rfl) _ _ _ _ (HR6.out.below hSw) Tryz.underlying28 (by kernel_rfl) hi5.out
 intro vw20 hw20
 clear hw19 vw19
 (try simp only [Act.put, List.getElem_toArray, List.getElem_cons_zero, List.getElem_cons_succ, List.setIfInBounds_toArray, List.set_cons_zero, List.set_cons_succ])
 refine give_callS [] 22 15 #[.agg (scC oneS), .agg (scC t)] (.bool true) hG rfl (by kernel_rfl) hw20 (by kernel_rfl) ?_ (fun X hX => HSM.out X hX) ?_
 ·intro wz; (first | (go_simp; done) | (go_simp; with_reducible rfl))
 intro vw21 hw21
 clear hw20 vw20
 (try simp only [Act.put, List.getElem_toArray, List.getElem_cons_zero, List.getElem_cons_succ, List.setIfInBounds_toArray, List.set_cons_zero, List.set_cons_succ])
 refine give_pure [] 23 (?_) hG rfl (by kernel_rfl) hw21 (by kernel_rfl) ?_ ?_
 rotate_left
 ·intro wz hSw; (first | (go_simp; done) | (go_simp; with_reducible rfl))
 intro vw22 hw22
 clear hw21 vw21
 (try simp only [Act.put, List.getElem_toArray, List.getElem_cons_zero, List.getElem_cons_succ, List.setIfInBounds_toArray, List.set_cons_zero, List.set_cons_succ])
 refine give_pure [] 24 (?_) hG rfl (by kernel_rfl) hw22 (by kernel_rfl) ?_ ?_
 rotate_left
 ·intro wz hSw; (first | (go_simp; done) | (go_simp; with_reducible rfl))
 intro vw23 hw23
 clear hw22 vw22
 (try simp only [Act.put, List.getElem_toArray, List.getElem_cons_zero, List.getElem_cons_succ, List.setIfInBounds_toArray, List.set_cons_zero, List.set_cons_succ])
 refine give_done (by kernel_rfl) (?_) _
 refine hK3 _ _ ?_
 have HE := Lib.hid (bnext HB6.out hw23)
 go_wp2_with fail
 go_ret
 exact ⟨rfl, HE.out⟩
end Go.Proofs.YtbbhmhihpdmoiaaGreat.Fx

set_option linter.unusedVariables false
set_option linter.unusedSimpArgs false
namespace Go.Proofs.YtbbhmhihpdmoiaaGreat.Fx
open Go Go.RowKit
theorem info19 {s : ScR} (h : ScWf s) : (Tryz.prog.info? 28).map (·.size) = some (scL s).length := by rw [scL_len h]; kernel_rfl
end Go.Proofs.YtbbhmhihpdmoiaaGreat.Fx

set_option linter.unusedVariables false
set_option linter.unusedSimpArgs false
namespace Go.Proofs.YtbbhmhihpdmoiaaGreat.Fx
open Go Go.RowKit Go.Lib
open Go.Proofs.YtbbhmhihpdmoiaaGreat.Pk (Bs By cutA)
theorem seal_by {m : List Nat} (h : By m) : By (sealL m) := by
 unfold sealL
 intro x hx
 rcases List.mem_append.1 hx with hx | hx
 ·exact h x hx
 ·exact Cx.le4_by _ x hx
theorem bytes_ok {k : KeyS} (h : dSc k) : By (bytesK k) ∧ (bytesK k).length ≤ 900000 := by
 have h1 := goodSc.bytes k h
 have h2 := (fSc_len h).2
 refine ⟨seal_by (fun x hx => ?_), ?_⟩
 ·rcases List.mem_append.1 hx with hx | hx
  ·exact mark1_by x hx
  ·exact h1 x hx
 ·unfold bytesK sealL
  rw [List.length_append, le4_four, List.length_append]
  have : mark1.length = 4 := rfl
  omega
structure BkI (s : ScR) (l : List Nat) (o : Option Addr) (w W : World) : Prop where
 box : ScAt w.heap.size s W
 oa : ObjsAt W s.oo s.os
 bs : Bs W o l
 bel : Below w.heap.size w W
theorem BkI.up {s : ScR} {l : List Nat} {o : Option Addr} {w W X : World} (i : BkI s l o w W) (h : Below W.heap.size W X) : BkI s l o w X := ⟨i.box.below h, i.oa.below h, i.bs.below h, bnext i.bel h⟩
end Go.Proofs.YtbbhmhihpdmoiaaGreat.Fx
