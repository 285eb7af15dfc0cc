import Derived.Laws.Rows
import Derived.Test.YtbbhmhihpdmoiaaGreatProg
import Derived.Test.YtbbhmhihpdmoiaaGreatMv25
set_option linter.unusedVariables false
set_option linter.unusedSimpArgs false
namespace Go.Proofs.YtbbhmhihpdmoiaaGreat.Fx
open Go Go.RowKit
theorem stop_at {P : Program} {ops : Array Oper} {rest : List Oper} {op : Oper} {a : Act} {w : World} {Q : Exit → Act → World → Prop} (d : Option Tmp) (h : op.dst = d) (k : Hid (wpList P ops Q (op :: rest) a w)) : wpList P ops Q (op :: rest) a w := k.out
set_option maxRecDepth 100000 in
set_option maxHeartbeats 8000000 in
theorem zsame_yes (a b : ScR) (w : World) (ha : ScWf a) (hb : ScWf b) (h : ObjsAt w a.oo a.os) (h2 : ObjsAt w b.oo b.os) (h1 : a.w = b.w) (h3 : a.h = b.h) (h4 : a.cam = b.cam) (hl : a.os.length = b.os.length) :
  Calls Tryz.prog 15 #[.agg (scC a), .agg (scC b)] w (RetBool (decide (a.os.map keyO = b.os.map keyO)) w) := by
 have HI := Lib.hid (TwoS.new h h2)
 have hA := Lib.hid (sizeM ha.len)
 have hBm := Lib.hid (sizeM hb.len)
 have c0 : ((w.alloc (.cells (scC a) 28)).alloc (.cells (scC b) 28)).cell? ⟨w.heap.size, 0, none⟩ = some (.int .i64 a.w) := HI.out.sa.c0
 have c1 : ((w.alloc (.cells (scC a) 28)).alloc (.cells (scC b) 28)).cell? ⟨w.heap.size, 1, none⟩ = some (.int .i64 a.h) := HI.out.sa.c1
 have d0 : ((w.alloc (.cells (scC a) 28)).alloc (.cells (scC b) 28)).cell? ⟨w.heap.size + 1, 0, none⟩ = some (.int .i64 b.w) := HI.out.sb.c0
 have d1 : ((w.alloc (.cells (scC a) 28)).alloc (.cells (scC b) 28)).cell? ⟨w.heap.size + 1, 1, none⟩ = some (.int .i64 b.h) := HI.out.sb.c1
 have c18 : ((w.alloc (.cells (scC a) 28)).alloc (.cells (scC b) 28)).cell? ⟨w.heap.size, 18, none⟩ = some (.slice a.oo a.os.length a.oc) := HI.out.sa.c18 ha
 have d18 : ((w.alloc (.cells (scC a) 28)).alloc (.cells (scC b) 28)).cell? ⟨w.heap.size + 1, 18, none⟩ = some (.slice b.oo b.os.length b.oc) := HI.out.sb.c18 hb
 obtain ⟨V0, hV0⟩ : ∃ V, ((w.alloc (.cells (scC a) 28)).alloc (.cells (scC b) 28)) = V := ⟨_, rfl⟩
 rw [hV0] at HI c0 c1 d0 d1 c18 d18
 have HV0 := Lib.hid hV0
 clear hV0
 have hne : ∀ W, (binOp .neq 25 (.agg (a.cam.map encI).toArray) (.agg (b.cam.map encI).toArray)).run Tryz.prog W = .ok (.bool false) W := fun W => by rw [neq_mat2 W _ _ ha.len hb.len]; simp [h4]
 have HWA := Lib.hid ha
 have HWB := Lib.hid hb
 have HL2 := Lib.hid hl
 have la := hb.cap.1
 rw [h1] at c0
 rw [h3] at c1
 rw [hl] at c18
 obtain ⟨n, hn⟩ : ∃ n, b.os.length = n := ⟨_, rfl⟩
 have HN := Lib.hid hn
 rw [hn] at c18 d18 la
 have n0 : (0 : Int) ≤ (n : Int) := by omega
 have n3 : (n : Int) ≤ 9223372036854775807 := by omega
 clear ha hb h h2 h1 h3 h4 hl hn la
 generalize b.w = bw at c0 d0
 generalize b.h = bh at c1 d1
 go_enter Tryz.func15, Tryz.ntmps15
 go_wp2_with (first | (rw [HV0.out]) | (first | (refine wpList_load_mid_g rfl 25 (.tmp 23) rfl w.heap.size 2 rfl (a.cam.map encI) _ HI.out.sa.cam Tryz.underlying25 rfl hA.out ?_) | (refine wpList_load_mid_g rfl 25 (.tmp 25) rfl (w.heap.size + 1) 2 rfl (b.cam.map encI) _ HI.out.sb.cam Tryz.underlying25 rfl hBm.out ?_)))
 go_loopg [5, 6, 7, 8, 9] n (ZsRel a b w n)
 case atStart => exact ⟨0, rfl, rfl, by omega, HI.out, rfl⟩
 case round =>
  clear HI c0 c1 d0 d1 c18 d18 hne hA hBm HV0
  obtain ⟨k, hg, rfl, hk, htw, ht⟩ := hrel
  subst hg
  have HW := Lib.hid htw
  have HT := Lib.hid ht
  have k0 : (0 : Int) ≤ (k : Int) := by omega
  have c18 : wr.cell? ⟨w.heap.size, 18, none⟩ = some (.slice a.oo n a.oc) := by rw [htw.sa.c18 HWA.out, HL2.out, HN.out]
  have d18 : ∀ W, TwoS a b w W → W.cell? ⟨w.heap.size + 1, 18, none⟩ = some (.slice b.oo n b.oc) := fun W hw => by rw [hw.sb.c18 HWB.out, HN.out]
  clear ht
  by_cases hkn : k < n
  ·have t1 : (k : Int) < (n : Int) := by omega
   obtain ⟨x, hx⟩ : ∃ x, a.os[k]? = some x := ⟨_, List.getElem?_eq_getElem (by have := HL2.out; have := HN.out; omega)⟩
   obtain ⟨y, hy⟩ : ∃ y, b.os[k]? = some y := ⟨_, List.getElem?_eq_getElem (by rw [HN.out]; exact hkn)⟩
   obtain ⟨b1, f1, e1, q1⟩ := htw.oa k x hx
   obtain ⟨b2, f2, e2, q2⟩ := htw.ob k y hy
   have HX := Lib.hid (show (a.os.map keyO)[k]? = some (keyO x) by simp [hx])
   have HY := Lib.hid (show (b.os.map keyO)[k]? = some (keyO y) by simp [hy])
   have Q1 := Lib.hid q1
   have Q2 := Lib.hid q2
   rw [e1] at c18
   rw [e2] at d18
   clear hx hy q1 q2 e1 e2
   obtain ⟨X1, hX1⟩ : ∃ V, wr.alloc (.cells #[.int .i64 0, .int .i64 0, .int .i64 0, .int .i64 0, .int .i64 0, .int .i64 0, .int .i64 0, .int .i64 0, .int .i64 0, .int .i64 0, .int .i64 0, .int .i64 0, .int .i64 0, .int .i64 0, .int .i64 0, .int .i64 0, .int .i64 0, .slice none 0 0, .slice none 0 0] 73) = V := ⟨_, rfl⟩
   have r1 : RowAt 73 wr.heap.size #[.int .i64 0, .int .i64 0, .int .i64 0, .int .i64 0, .int .i64 0, .int .i64 0, .int .i64 0, .int .i64 0, .int .i64 0, .int .i64 0, .int .i64 0, .int .i64 0, .int .i64 0, .int .i64 0, .int .i64 0, .int .i64 0, .int .i64 0, .slice none 0 0, .slice none 0 0] X1 := by rw [← hX1]; exact RowAt.new _ _ _
   obtain ⟨X2, hX2⟩ : ∃ V, X1.setRow wr.heap.size (objL x).toArray = V := ⟨_, rfl⟩
   have r2 : RowAt 73 wr.heap.size (objL x).toArray X2 := by rw [← hX2]; exact r1.row _
   have hb2 : Below wr.heap.size wr X2 := by rw [← hX2, ← hX1]; exact Below.row ((Below.refl _ wr).alloc (Nat.le_refl _) _) (Nat.le_refl _) _
   have QR := Lib.hid (Q2.out.below hb2).cells
   have d18b := d18 X2 (htw.up hb2)
   obtain ⟨X3, hX3⟩ : ∃ V, X2.alloc (.cells #[.int .i64 0, .int .i64 0, .int .i64 0, .int .i64 0, .int .i64 0, .int .i64 0, .int .i64 0, .int .i64 0, .int .i64 0, .int .i64 0, .int .i64 0, .int .i64 0, .int .i64 0, .int .i64 0, .int .i64 0, .int .i64 0, .int .i64 0, .slice none 0 0, .slice none 0 0] 73) = V := ⟨_, rfl⟩
   have r3 : RowAt 73 X2.heap.size #[.int .i64 0, .int .i64 0, .int .i64 0, .int .i64 0, .int .i64 0, .int .i64 0, .int .i64 0, .int .i64 0, .int .i64 0, .int .i64 0, .int .i64 0, .int .i64 0, .int .i64 0, .int .i64 0, .int .i64 0, .int .i64 0, .int .i64 0, .slice none 0 0, .slice none 0 0] X3 := by rw [← hX3]; exact RowAt.new _ _ _
   obtain ⟨X4, hX4⟩ : ∃ V, X3.setRow X2.heap.size (objL y).toArray = V := ⟨_, rfl⟩
   have r4 : RowAt 73 X2.heap.size (objL y).toArray X4 := by rw [← hX4]; exact r3.row _
   have hb4 : Below X2.heap.size X2 X4 := by rw [← hX4, ← hX3]; exact Below.row ((Below.refl _ X2).alloc (Nat.le_refl _) _) (Nat.le_refl _) _
   have hb04 := bnext hb2 hb4
   have U1 := Q1.out.below hb04
   have U2 := Q2.out.below hb04
   have hz : ZsI a b x y wr.heap.size X2.heap.size w X4 := ⟨htw.up hb04, ⟨r2.below hb4, U1.wf⟩, ⟨r4, U2.wf⟩, U1.verts, U2.verts, U1.tris, U2.tris⟩
   have HZ := Lib.hid hz
   have z0 : X4.cell? ⟨wr.heap.size, 0, none⟩ = some (.int .i64 x.id) := hz.a.c0
   have y0 : X4.cell? ⟨X2.heap.size, 0, none⟩ = some (.int .i64 y.id) := hz.b.c0
   have z17 : X4.cell? ⟨wr.heap.size, 17, none⟩ = some (.slice x.vo x.vs.length x.vc) := hz.a.c17
   have y17 : X4.cell? ⟨X2.heap.size, 17, none⟩ = some (.slice y.vo y.vs.length y.vc) := hz.b.c17
   have z18 : X4.cell? ⟨wr.heap.size, 18, none⟩ = some (.slice x.tq x.ts.length x.tc) := hz.a.c18
   have y18 : X4.cell? ⟨X2.heap.size, 18, none⟩ = some (.slice y.tq y.ts.length y.tc) := hz.b.c18
   have HM1 := Lib.hid hz.a.mat
   have HM2 := Lib.hid hz.b.mat
   have hA := Lib.hid (sizeMx U1.wf)
   have hBm := Lib.hid (sizeMx U2.wf)
   have hi1 := Lib.hid (sizeOx U1.wf)
   have hi2 := Lib.hid (sizeOx U2.wf)
   have hj1 := Lib.hid (show (Tryz.prog.info? 73).map (·.size) = some (objL x).toArray.size by rw [List.size_toArray]; exact sizeOx U1.wf)
   have hj2 := Lib.hid (show (Tryz.prog.info? 73).map (·.size) = some (objL y).toArray.size by rw [List.size_toArray]; exact sizeOx U2.wf)
   have s1 := Lib.hid (show 19 = (objL x).toArray.size by rw [List.size_toArray]; exact (objL_len U1.wf).symm)
   have s2 := Lib.hid (show 19 = (objL y).toArray.size by rw [List.size_toArray]; exact (objL_len U2.wf).symm)
   have M1 := Lib.hid r1
   have M3 := Lib.hid r3
   have R1 := Lib.hid Q1.out.cells
   have HX1 := Lib.hid hX1
   have HX2 := Lib.hid hX2
   have HX3 := Lib.hid hX3
   have HX4 := Lib.hid hX4
   have HLX := Lib.hid U1.wf.len
   have HLY := Lib.hid U2.wf.len
   have HNK := Lib.hid (fun (e : keyO x ≠ keyO y) => takne HX.out HY.out e)
   have HNO := HNK
   clear r1 r2 r3 r4 hb2 hb4 hb04 U1 U2 hX1 hX2 hX3 hX4 hz htw d18
   go_wp2_with (first | (with_reducible refine stop_at (some 56) rfl ?_) | (first | (rw [HX1.out]) | (rw [HX2.out]) | (rw [HX3.out]) | (rw [HX4.out]) | (with_reducible refine stop_at (some 49) rfl ?_; refine Lib.hid ?_; refine wpList_load_mid rfl 73 (.tmp 48) rfl b1 (f1 + k * 19) rfl (objL x) _ R1.out Tryz.underlying73 rfl hi1.out ?_) | (refine wpList_store_big rfl 73 (.tmp 6) (.tmp 49) rfl wr.heap.size _ _ (objL x).toArray rfl rfl M1.out hj1.out s1.out (objL_one' _) ?_) | (with_reducible refine stop_at (some 54) rfl ?_; refine Lib.hid ?_; refine wpList_load_mid rfl 73 (.tmp 53) rfl b2 (f2 + k * 19) rfl (objL y) _ QR.out Tryz.underlying73 rfl hi2.out ?_) | (refine wpList_store_big rfl 73 (.tmp 7) (.tmp 54) rfl X2.heap.size _ _ (objL y).toArray rfl rfl M3.out hj2.out s2.out (objL_one' _) ?_)))
   clear HX1 HX2 HX3 HX4 M1 M3 R1 QR Q1 Q2 hi1 hi2 hj1 hj2 s1 s2 c18 d18b
   have HZS := HZ.out.s
   clear HZS
   by_cases g1 : x.id = y.id
   ·by_cases g2 : x.m = y.m
    ·have hne : ∀ W, (binOp .neq 25 (.agg (x.m.map encI).toArray) (.agg (y.m.map encI).toArray)).run Tryz.prog W = .ok (.bool false) W := fun W => by rw [neq_mat2 W _ _ HLX.out HLY.out]; simp [g2]
     by_cases g3 : x.vs.length = y.vs.length
     ·by_cases g4 : x.ts.length = y.ts.length
      ·obtain ⟨p, hp⟩ : ∃ p, y.vs.length = p := ⟨_, rfl⟩
       obtain ⟨q, hq⟩ : ∃ q, y.ts.length = q := ⟨_, rfl⟩
       have HP1 := Lib.hid (g3.trans hp)
       have HP2 := Lib.hid hp
       have HQ1 := Lib.hid (g4.trans hq)
       have HQ2 := Lib.hid hq
       have hpc := HZ.out.b.wf.vcap.1
       have hqc := HZ.out.b.wf.tcap.1
       rw [hp] at hpc
       rw [hq] at hqc
       rw [g3, hp] at z17
       rw [hp] at y17
       rw [g4, hq] at z18
       rw [hq] at y18
       have HKE := Lib.hid (fun (e1 : x.vs = y.vs) (e2 : x.ts = y.ts) => takeq HX.out HY.out HT.out (show keyO x = keyO y by unfold keyO; rw [g1, g2, e1, e2]))
       rw [g1] at z0
       have p0 : (0 : Int) ≤ (p : Int) := by omega
       have p3 : (p : Int) ≤ 9223372036854775807 := by omega
       have q0 : (0 : Int) ≤ (q : Int) := by omega
       have q3 : (q : Int) ≤ 9223372036854775807 := by omega
       clear g1 g2 g3 g4 hp hq hpc hqc HNK
       generalize y.id = yi at z0 y0
       refine Lib.hid ?_
       go_wp2_with (first | (with_reducible refine stop_at (some 62) rfl ?_; refine Lib.hid ?_; refine wpList_load_mid_g rfl 25 (.tmp 61) rfl wr.heap.size 1 rfl (x.m.map encI) _ HM1.out Tryz.underlying25 rfl hA.out ?_) | (with_reducible refine stop_at (some 64) rfl ?_; refine Lib.hid ?_; refine wpList_load_mid_g rfl 25 (.tmp 63) rfl X2.heap.size 1 rfl (y.m.map encI) _ HM2.out Tryz.underlying25 rfl hBm.out ?_))
       clear HM1 HM2 hA hBm hne z0 y0 z17 y17 z18 y18 HT
       obtain ⟨m1, hm1⟩ : ∃ m, wr.heap.size = m := ⟨_, rfl⟩
       obtain ⟨m2, hm2⟩ : ∃ m, X2.heap.size = m := ⟨_, rfl⟩
       rw [hm1, hm2] at HZ ⊢
       clear hm1 hm2
       go_loopg [8] p (ZiRel a b x y m1 m2 x.vs y.vs w p)
       case atStart => exact ⟨0, rfl, rfl, by omega, HZ.out, rfl⟩
       case round =>
        clear HZ
        obtain ⟨j, hg, rfl, hj, hz, htj⟩ := hrel
        subst hg
        have HZ := Lib.hid hz
        have HTJ := Lib.hid htj
        have j0 : (0 : Int) ≤ (j : Int) := by omega
        have z17 : wr.cell? ⟨m1, 17, none⟩ = some (.slice x.vo p x.vc) := by rw [hz.a.c17, HP1.out]
        clear hz htj
        by_cases hjp : j < p
        ·have t2 : (j : Int) < (p : Int) := by omega
         obtain ⟨u, hu⟩ : ∃ u, x.vs[j]? = some u := ⟨_, List.getElem?_eq_getElem (by have := HP1.out; omega)⟩
         obtain ⟨v, hv⟩ : ∃ v, y.vs[j]? = some v := ⟨_, List.getElem?_eq_getElem (by have := HP2.out; omega)⟩
         obtain ⟨b1, f1, e1, _, wu⟩ := HZ.out.va j u hu
         obtain ⟨b2, f2, e2, _, wv⟩ := HZ.out.vb j v hv
         have RU : Hid (∀ W, VertsAt W x.vo x.vs → W.rangeAt b1 (f1 + j * 3) (u.map encI)) := Lib.hid (fun W h => by
          obtain ⟨b1', f1', e1', r', _⟩ := h j u hu
          rw [e1] at e1'
          cases e1'
          exact r')
         have RV : Hid (∀ W, VertsAt W y.vo y.vs → W.rangeAt b2 (f2 + j * 3) (v.map encI)) := Lib.hid (fun W h => by
          obtain ⟨b1', f1', e1', r', _⟩ := h j v hv
          rw [e2] at e1'
          cases e1'
          exact r')
         have hi1 := Lib.hid (show (Tryz.prog.info? 85).map (·.size) = some (u.map encI).length from (by rw [List.length_map, wu.len]; kernel_rfl))
         have hi2 := Lib.hid (show (Tryz.prog.info? 85).map (·.size) = some (v.map encI).length from (by rw [List.length_map, wv.len]; kernel_rfl))
         have E1 := Lib.hid e1
         have E2 := Lib.hid e2
         rw [e1] at z17
         clear e1 e2
         by_cases huv : u = v
         ·have HS := Lib.hid (takeq hu hv HTJ.out huv)
          have hneq : ∀ W, (binOp .neq 85 (.agg (u.map encI).toArray) (.agg (v.map encI).toArray)).run Tryz.prog W = .ok (.bool false) W := fun W => by rw [neq_v3 W u v wu.len wv.len]; simp [huv]
          clear hu hv wu wv huv
          go_wp2_with fail
          generalize wr = V at HZ ⊢
          rename_i K5 hK5
          refine (wpIn_wide (n := 5)).1 (give_region (S := fun X => ZsI a b x y m1 m2 w X) (Z := []) (by kernel_rfl) (by kernel_rfl) (fun _ _ h hb => ZsI.up h hb) (fun d _ _ _ _ h => by cases d <;> exact h) (HZ.out.up (bdrew0 _ _ 1)) (fun hG vw0 hw0 => ?_))
          refine give_pure [] 0 (?_) hG rfl (by kernel_rfl) hw0 (by kernel_rfl) ?_ ?_
          rotate_left
          ·intro wz hSw; (first | (go_simp; done) | (go_simp; with_reducible rfl))
          intro vw1 hw1
          clear hw0 vw0
          (try simp only [Act.put, List.getElem_toArray, List.getElem_cons_zero, List.getElem_cons_succ, List.setIfInBounds_toArray, List.set_cons_zero, List.set_cons_succ])
          refine give_pure [] 1 (.slice (some ⟨b1, f1, none⟩) p x.vc) hG rfl (by kernel_rfl) hw1 (by kernel_rfl) ?_ ?_
          ·intro wz hSw; have c := hSw.a.c17; rw [E1.out, HP1.out] at c; (first | (go_simp; done) | (go_simp; with_reducible rfl))
          intro vw2 hw2
          clear hw1 vw1
          (try simp only [Act.put, List.getElem_toArray, List.getElem_cons_zero, List.getElem_cons_succ, List.setIfInBounds_toArray, List.set_cons_zero, List.set_cons_succ])
          refine give_pure [] 2 (?_) hG rfl (by kernel_rfl) hw2 (by kernel_rfl) ?_ ?_
          rotate_left
          ·intro wz hSw; (first | (go_simp; done) | (go_simp; with_reducible rfl))
          intro vw3 hw3
          clear hw2 vw2
          (try simp only [Act.put, List.getElem_toArray, List.getElem_cons_zero, List.getElem_cons_succ, List.setIfInBounds_toArray, List.set_cons_zero, List.set_cons_succ])
          refine give_pure [] 3 (.pointer (some ⟨b1, f1 + j * 3, none⟩)) hG rfl (by kernel_rfl) hw3 (by kernel_rfl) ?_ ?_
          ·intro wz hSw; (first | (go_simp; done) | (go_simp; with_reducible rfl))
          intro vw4 hw4
          clear hw3 vw3
          (try simp only [Act.put, List.getElem_toArray, List.getElem_cons_zero, List.getElem_cons_succ, List.setIfInBounds_toArray, List.set_cons_zero, List.set_cons_succ])
          refine give_pure [] 4 (.agg (u.map encI).toArray) hG rfl (by kernel_rfl) hw4 (by kernel_rfl) ?_ ?_
          ·intro wz hSw; exact exec_load_mid 85 (.tmp 95) (by kernel_rfl) b1 (f1 + j * 3) (by kernel_rfl) (u.map encI) _ (RU.out _ hSw.va) Tryz.underlying85 (by kernel_rfl) hi1.out
          intro vw5 hw5
          clear hw4 vw4
          (try simp only [Act.put, List.getElem_toArray, List.getElem_cons_zero, List.getElem_cons_succ, List.setIfInBounds_toArray, List.set_cons_zero, List.set_cons_succ])
          refine give_pure [] 5 (?_) hG rfl (by kernel_rfl) hw5 (by kernel_rfl) ?_ ?_
          rotate_left
          ·intro wz hSw; (first | (go_simp; done) | (go_simp; with_reducible rfl))
          intro vw6 hw6
          clear hw5 vw5
          (try simp only [Act.put, List.getElem_toArray, List.getElem_cons_zero, List.getElem_cons_succ, List.setIfInBounds_toArray, List.set_cons_zero, List.set_cons_succ])
          refine give_pure [] 6 (.slice (some ⟨b2, f2, none⟩) p y.vc) hG rfl (by kernel_rfl) hw6 (by kernel_rfl) ?_ ?_
          ·intro wz hSw; have c := hSw.b.c17; rw [E2.out, HP2.out] at c; (first | (go_simp; done) | (go_simp; with_reducible rfl))
          intro vw7 hw7
          clear hw6 vw6
          (try simp only [Act.put, List.getElem_toArray, List.getElem_cons_zero, List.getElem_cons_succ, List.setIfInBounds_toArray, List.set_cons_zero, List.set_cons_succ])
          refine give_pure [] 7 (?_) hG rfl (by kernel_rfl) hw7 (by kernel_rfl) ?_ ?_
          rotate_left
          ·intro wz hSw; (first | (go_simp; done) | (go_simp; with_reducible rfl))
          intro vw8 hw8
          clear hw7 vw7
          (try simp only [Act.put, List.getElem_toArray, List.getElem_cons_zero, List.getElem_cons_succ, List.setIfInBounds_toArray, List.set_cons_zero, List.set_cons_succ])
          refine give_pure [] 8 (.pointer (some ⟨b2, f2 + j * 3, none⟩)) hG rfl (by kernel_rfl) hw8 (by kernel_rfl) ?_ ?_
          ·intro wz hSw; (first | (go_simp; done) | (go_simp; with_reducible rfl))
          intro vw9 hw9
          clear hw8 vw8
          (try simp only [Act.put, List.getElem_toArray, List.getElem_cons_zero, List.getElem_cons_succ, List.setIfInBounds_toArray, List.set_cons_zero, List.set_cons_succ])
          refine give_pure [] 9 (.agg (v.map encI).toArray) hG rfl (by kernel_rfl) hw9 (by kernel_rfl) ?_ ?_
          ·intro wz hSw; exact exec_load_mid 85 (.tmp 100) (by kernel_rfl) b2 (f2 + j * 3) (by kernel_rfl) (v.map encI) _ (RV.out _ hSw.vb) Tryz.underlying85 (by kernel_rfl) hi2.out
          intro vw10 hw10
          clear hw9 vw9
          (try simp only [Act.put, List.getElem_toArray, List.getElem_cons_zero, List.getElem_cons_succ, List.setIfInBounds_toArray, List.set_cons_zero, List.set_cons_succ])
          refine give_pure [] 10 (.bool false) hG rfl (by kernel_rfl) hw10 (by kernel_rfl) ?_ ?_
          ·intro wz hSw; (first | (go_simp; done) | (go_simp; with_reducible rfl))
          intro vw11 hw11
          clear hw10 vw10
          (try simp only [Act.put, List.getElem_toArray, List.getElem_cons_zero, List.getElem_cons_succ, List.setIfInBounds_toArray, List.set_cons_zero, List.set_cons_succ])
          refine give_done (by kernel_rfl) (?_) _
          refine hK5 _ _ ?_
          have HZ2 := Lib.hid hw11
          clear hw11 hG HZ hK5
          go_wp2_with fail
          go_roundg (p - (j + 1))
          case measure => omega
          case rel => exact ⟨j + 1, rfl, by go_num, by omega, HZ2.out, HS.out⟩
         ·have HR := Lib.hid (HNO.out (fun e => huv (by have h := congrArg (fun z => z.2.2.1) e; rw [show x.vs = y.vs from h, hv] at hu; exact (Option.some.inj hu).symm)))
          have hneq : ∀ W, (binOp .neq 85 (.agg (u.map encI).toArray) (.agg (v.map encI).toArray)).run Tryz.prog W = .ok (.bool true) W := fun W => by rw [neq_v3 W u v wu.len wv.len]; simp [huv]
          clear hu hv wu wv huv
          go_wp2_with fail
          generalize wr = V at HZ ⊢
          rename_i K5 hK5
          refine (wpIn_wide (n := 5)).1 (give_region (S := fun X => ZsI a b x y m1 m2 w X) (Z := []) (by kernel_rfl) (by kernel_rfl) (fun _ _ h hb => ZsI.up h hb) (fun d _ _ _ _ h => by cases d <;> exact h) (HZ.out.up (bdrew0 _ _ 1)) (fun hG vw0 hw0 => ?_))
          refine give_pure [] 0 (?_) hG rfl (by kernel_rfl) hw0 (by kernel_rfl) ?_ ?_
          rotate_left
          ·intro wz hSw; (first | (go_simp; done) | (go_simp; with_reducible rfl))
          intro vw1 hw1
          clear hw0 vw0
          (try simp only [Act.put, List.getElem_toArray, List.getElem_cons_zero, List.getElem_cons_succ, List.setIfInBounds_toArray, List.set_cons_zero, List.set_cons_succ])
          refine give_pure [] 1 (.slice (some ⟨b1, f1, none⟩) p x.vc) hG rfl (by kernel_rfl) hw1 (by kernel_rfl) ?_ ?_
          ·intro wz hSw; have c := hSw.a.c17; rw [E1.out, HP1.out] at c; (first | (go_simp; done) | (go_simp; with_reducible rfl))
          intro vw2 hw2
          clear hw1 vw1
          (try simp only [Act.put, List.getElem_toArray, List.getElem_cons_zero, List.getElem_cons_succ, List.setIfInBounds_toArray, List.set_cons_zero, List.set_cons_succ])
          refine give_pure [] 2 (?_) hG rfl (by kernel_rfl) hw2 (by kernel_rfl) ?_ ?_
          rotate_left
          ·intro wz hSw; (first | (go_simp; done) | (go_simp; with_reducible rfl))
          intro vw3 hw3
          clear hw2 vw2
          (try simp only [Act.put, List.getElem_toArray, List.getElem_cons_zero, List.getElem_cons_succ, List.setIfInBounds_toArray, List.set_cons_zero, List.set_cons_succ])
          refine give_pure [] 3 (.pointer (some ⟨b1, f1 + j * 3, none⟩)) hG rfl (by kernel_rfl) hw3 (by kernel_rfl) ?_ ?_
          ·intro wz hSw; (first | (go_simp; done) | (go_simp; with_reducible rfl))
          intro vw4 hw4
          clear hw3 vw3
          (try simp only [Act.put, List.getElem_toArray, List.getElem_cons_zero, List.getElem_cons_succ, List.setIfInBounds_toArray, List.set_cons_zero, List.set_cons_succ])
          refine give_pure [] 4 (.agg (u.map encI).toArray) hG rfl (by kernel_rfl) hw4 (by kernel_rfl) ?_ ?_
          ·intro wz hSw; exact exec_load_mid 85 (.tmp 95) (by kernel_rfl) b1 (f1 + j * 3) (by kernel_rfl) (u.map encI) _ (RU.out _ hSw.va) Tryz.underlying85 (by kernel_rfl) hi1.out
          intro vw5 hw5
          clear hw4 vw4
          (try simp only [Act.put, List.getElem_toArray, List.getElem_cons_zero, List.getElem_cons_succ, List.setIfInBounds_toArray, List.set_cons_zero, List.set_cons_succ])
          refine give_pure [] 5 (?_) hG rfl (by kernel_rfl) hw5 (by kernel_rfl) ?_ ?_
          rotate_left
          ·intro wz hSw; (first | (go_simp; done) | (go_simp; with_reducible rfl))
          intro vw6 hw6
          clear hw5 vw5
          (try simp only [Act.put, List.getElem_toArray, List.getElem_cons_zero, List.getElem_cons_succ, List.setIfInBounds_toArray, List.set_cons_zero, List.set_cons_succ])
          refine give_pure [] 6 (.slice (some ⟨b2, f2, none⟩) p y.vc) hG rfl (by kernel_rfl) hw6 (by kernel_rfl) ?_ ?_
          ·intro wz hSw; have c := hSw.b.c17; rw [E2.out, HP2.out] at c; (first | (go_simp; done) | (go_simp; with_reducible rfl))
          intro vw7 hw7
          clear hw6 vw6
          (try simp only [Act.put, List.getElem_toArray, List.getElem_cons_zero, List.getElem_cons_succ, List.setIfInBounds_toArray, List.set_cons_zero, List.set_cons_succ])
          refine give_pure [] 7 (?_) hG rfl (by kernel_rfl) hw7 (by kernel_rfl) ?_ ?_
          rotate_left
          ·intro wz hSw; (first | (go_simp; done) | (go_simp; with_reducible rfl))
          intro vw8 hw8
          clear hw7 vw7
          (try simp only [Act.put, List.getElem_toArray, List.getElem_cons_zero, List.getElem_cons_succ, List.setIfInBounds_toArray, List.set_cons_zero, List.set_cons_succ])
          refine give_pure [] 8 (.pointer (some ⟨b2, f2 + j * 3, none⟩)) hG rfl (by kernel_rfl) hw8 (by kernel_rfl) ?_ ?_
          ·intro wz hSw; (first | (go_simp; done) | (go_simp; with_reducible rfl))
          intro vw9 hw9
          clear hw8 vw8
          (try simp only [Act.put, List.getElem_toArray, List.getElem_cons_zero, List.getElem_cons_succ, List.setIfInBounds_toArray, List.set_cons_zero, List.set_cons_succ])
          refine give_pure [] 9 (.agg (v.map encI).toArray) hG rfl (by kernel_rfl) hw9 (by kernel_rfl) ?_ ?_
          ·intro wz hSw; exact exec_load_mid 85 (.tmp 100) (by kernel_rfl) b2 (f2 + j * 3) (by kernel_rfl) (v.map encI) _ (RV.out _ hSw.vb) Tryz.underlying85 (by kernel_rfl) hi2.out
          intro vw10 hw10
          clear hw9 vw9
          (try simp only [Act.put, List.getElem_toArray, List.getElem_cons_zero, List.getElem_cons_succ, List.setIfInBounds_toArray, List.set_cons_zero, List.set_cons_succ])
          refine give_pure [] 10 (.bool true) hG rfl (by kernel_rfl) hw10 (by kernel_rfl) ?_ ?_
          ·intro wz hSw; (first | (go_simp; done) | (go_simp; with_reducible rfl))
          intro vw11 hw11
          clear hw10 vw10
          (try simp only [Act.put, List.getElem_toArray, List.getElem_cons_zero, List.getElem_cons_succ, List.setIfInBounds_toArray, List.set_cons_zero, List.set_cons_succ])
          refine give_done (by kernel_rfl) (?_) _
          refine hK5 _ _ ?_
          have HZ2 := Lib.hid hw11
          clear hw11 hG HZ hK5
          go_wp2_with fail
          go_ret
          exact ⟨by rw [HR.out]; first | rfl | simp, HZ2.out.s.bel⟩
        ·obtain rfl : j = p := by omega
         have t2 : ¬ (j : Int) < (j : Int) := by omega
         have HV : Hid (x.vs = y.vs) := Lib.hid (by have h := HTJ.out; rw [List.take_of_length_le (by rw [HP1.out]; omega), List.take_of_length_le (by rw [HP2.out]; omega)] at h; exact h)
         clear HTJ
         go_wp2_with fail
         clear z17
         go_loopg [9] q (ZiRel a b x y m1 m2 x.ts y.ts w q)
         case atStart => exact ⟨0, rfl, rfl, by omega, HZ.out, rfl⟩
         case round =>
          clear HZ
          obtain ⟨i, hg, rfl, hi, hz, hti⟩ := hrel
          subst hg
          have HZ := Lib.hid hz
          have HTJ := Lib.hid hti
          have i0 : (0 : Int) ≤ (i : Int) := by omega
          have z18 : wr.cell? ⟨m1, 18, none⟩ = some (.slice x.tq q x.tc) := by rw [hz.a.c18, HQ1.out]
          clear hz hti
          by_cases hiq : i < q
          ·have t3 : (i : Int) < (q : Int) := by omega
           obtain ⟨u, hu⟩ : ∃ u, x.ts[i]? = some u := ⟨_, List.getElem?_eq_getElem (by have := HQ1.out; omega)⟩
           obtain ⟨v, hv⟩ : ∃ v, y.ts[i]? = some v := ⟨_, List.getElem?_eq_getElem (by have := HQ2.out; omega)⟩
           obtain ⟨b1, f1, e1, _, wu⟩ := HZ.out.ta i u hu
           obtain ⟨b2, f2, e2, _, wv⟩ := HZ.out.tb i v hv
           have RU : Hid (∀ W, TrisAt W x.tq x.ts → W.rangeAt b1 (f1 + i * 4) (triL u)) := Lib.hid (fun W h => by
            obtain ⟨b1', f1', e1', r', _⟩ := h i u hu
            rw [e1] at e1'
            cases e1'
            exact r')
           have RV : Hid (∀ W, TrisAt W y.tq y.ts → W.rangeAt b2 (f2 + i * 4) (triL v)) := Lib.hid (fun W h => by
            obtain ⟨b1', f1', e1', r', _⟩ := h i v hv
            rw [e2] at e1'
            cases e1'
            exact r')
           have hi1 := Lib.hid (show (Tryz.prog.info? 87).map (·.size) = some (triL u).length by kernel_rfl)
           have hi2 := Lib.hid (show (Tryz.prog.info? 87).map (·.size) = some (triL v).length by kernel_rfl)
           have E1 := Lib.hid e1
           have E2 := Lib.hid e2
           rw [e1] at z18
           clear e1 e2
           by_cases huv : u = v
           ·have HS := Lib.hid (takeq hu hv HTJ.out huv)
            have hneq : ∀ W, (binOp .neq 87 (.agg (triL u).toArray) (.agg (triL v).toArray)).run Tryz.prog W = .ok (.bool false) W := fun W => by rw [neq_tri W u v]; simp [huv]
            clear hu hv wu wv huv
            go_wp2_with fail
            generalize wr = V at HZ ⊢
            rename_i K5 hK5
            refine (wpIn_wide (n := 5)).1 (give_region (S := fun X => ZsI a b x y m1 m2 w X) (Z := []) (by kernel_rfl) (by kernel_rfl) (fun _ _ h hb => ZsI.up h hb) (fun d _ _ _ _ h => by cases d <;> exact h) (HZ.out.up (bdrew0 _ _ 1)) (fun hG vw0 hw0 => ?_))
            refine give_pure [] 0 (?_) hG rfl (by kernel_rfl) hw0 (by kernel_rfl) ?_ ?_
            rotate_left
            ·intro wz hSw; (first | (go_simp; done) | (go_simp; with_reducible rfl))
            intro vw1 hw1
            clear hw0 vw0
            (try simp only [Act.put, List.getElem_toArray, List.getElem_cons_zero, List.getElem_cons_succ, List.setIfInBounds_toArray, List.set_cons_zero, List.set_cons_succ])
            refine give_pure [] 1 (.slice (some ⟨b1, f1, none⟩) q x.tc) hG rfl (by kernel_rfl) hw1 (by kernel_rfl) ?_ ?_
            ·intro wz hSw; have c := hSw.a.c18; rw [E1.out, HQ1.out] at c; (first | (go_simp; done) | (go_simp; with_reducible rfl))
            intro vw2 hw2
            clear hw1 vw1
            (try simp only [Act.put, List.getElem_toArray, List.getElem_cons_zero, List.getElem_cons_succ, List.setIfInBounds_toArray, List.set_cons_zero, List.set_cons_succ])
            refine give_pure [] 2 (?_) hG rfl (by kernel_rfl) hw2 (by kernel_rfl) ?_ ?_
            rotate_left
            ·intro wz hSw; (first | (go_simp; done) | (go_simp; with_reducible rfl))
            intro vw3 hw3
            clear hw2 vw2
            (try simp only [Act.put, List.getElem_toArray, List.getElem_cons_zero, List.getElem_cons_succ, List.setIfInBounds_toArray, List.set_cons_zero, List.set_cons_succ])
            refine give_pure [] 3 (.pointer (some ⟨b1, f1 + i * 4, none⟩)) hG rfl (by kernel_rfl) hw3 (by kernel_rfl) ?_ ?_
            ·intro wz hSw; (first | (go_simp; done) | (go_simp; with_reducible rfl))
            intro vw4 hw4
            clear hw3 vw3
            (try simp only [Act.put, List.getElem_toArray, List.getElem_cons_zero, List.getElem_cons_succ, List.setIfInBounds_toArray, List.set_cons_zero, List.set_cons_succ])
            refine give_pure [] 4 (.agg (triL u).toArray) hG rfl (by kernel_rfl) hw4 (by kernel_rfl) ?_ ?_
            ·intro wz hSw; exact exec_load_mid 87 (.tmp 113) (by kernel_rfl) b1 (f1 + i * 4) (by kernel_rfl) (triL u) _ (RU.out _ hSw.ta) Tryz.underlying87 (by kernel_rfl) hi1.out
            intro vw5 hw5
            clear hw4 vw4
            (try simp only [Act.put, List.getElem_toArray, List.getElem_cons_zero, List.getElem_cons_succ, List.setIfInBounds_toArray, List.set_cons_zero, List.set_cons_succ])
            refine give_pure [] 5 (?_) hG rfl (by kernel_rfl) hw5 (by kernel_rfl) ?_ ?_
            rotate_left
            ·intro wz hSw; (first | (go_simp; done) | (go_simp; with_reducible rfl))
            intro vw6 hw6
            clear hw5 vw5
            (try simp only [Act.put, List.getElem_toArray, List.getElem_cons_zero, List.getElem_cons_succ, List.setIfInBounds_toArray, List.set_cons_zero, List.set_cons_succ])
            refine give_pure [] 6 (.slice (some ⟨b2, f2, none⟩) q y.tc) hG rfl (by kernel_rfl) hw6 (by kernel_rfl) ?_ ?_
            ·intro wz hSw; have c := hSw.b.c18; rw [E2.out, HQ2.out] at c; (first | (go_simp; done) | (go_simp; with_reducible rfl))
            intro vw7 hw7
            clear hw6 vw6
            (try simp only [Act.put, List.getElem_toArray, List.getElem_cons_zero, List.getElem_cons_succ, List.setIfInBounds_toArray, List.set_cons_zero, List.set_cons_succ])
            refine give_pure [] 7 (?_) hG rfl (by kernel_rfl) hw7 (by kernel_rfl) ?_ ?_
            rotate_left
            ·intro wz hSw; (first | (go_simp; done) | (go_simp; with_reducible rfl))
            intro vw8 hw8
            clear hw7 vw7
            (try simp only [Act.put, List.getElem_toArray, List.getElem_cons_zero, List.getElem_cons_succ, List.setIfInBounds_toArray, List.set_cons_zero, List.set_cons_succ])
            refine give_pure [] 8 (.pointer (some ⟨b2, f2 + i * 4, none⟩)) hG rfl (by kernel_rfl) hw8 (by kernel_rfl) ?_ ?_
            ·intro wz hSw; (first | (go_simp; done) | (go_simp; with_reducible rfl))
            intro vw9 hw9
            clear hw8 vw8
            (try simp only [Act.put, List.getElem_toArray, List.getElem_cons_zero, List.getElem_cons_succ, List.setIfInBounds_toArray, List.set_cons_zero, List.set_cons_succ])
            refine give_pure [] 9 (.agg (triL v).toArray) hG rfl (by kernel_rfl) hw9 (by kernel_rfl) ?_ ?_
            ·intro wz hSw; exact exec_load_mid 87 (.tmp 118) (by kernel_rfl) b2 (f2 + i * 4) (by kernel_rfl) (triL v) _ (RV.out _ hSw.tb) Tryz.underlying87 (by kernel_rfl) hi2.out
            intro vw10 hw10
            clear hw9 vw9
            (try simp only [Act.put, List.getElem_toArray, List.getElem_cons_zero, List.getElem_cons_succ, List.setIfInBounds_toArray, List.set_cons_zero, List.set_cons_succ])
            refine give_pure [] 10 (.bool false) hG rfl (by kernel_rfl) hw10 (by kernel_rfl) ?_ ?_
            ·intro wz hSw; (first | (go_simp; done) | (go_simp; with_reducible rfl))
            intro vw11 hw11
            clear hw10 vw10
            (try simp only [Act.put, List.getElem_toArray, List.getElem_cons_zero, List.getElem_cons_succ, List.setIfInBounds_toArray, List.set_cons_zero, List.set_cons_succ])
            refine give_done (by kernel_rfl) (?_) _
            refine hK5 _ _ ?_
            have HZ2 := Lib.hid hw11
            clear hw11 hG HZ hK5
            go_wp2_with fail
            go_roundg (q - (i + 1))
            case measure => omega
            case rel => exact ⟨i + 1, rfl, by go_num, by omega, HZ2.out, HS.out⟩
           ·have HR := Lib.hid (HNO.out (fun e => huv (by have h := congrArg (fun z => z.2.2.2) e; rw [show x.ts = y.ts from h, hv] at hu; exact (Option.some.inj hu).symm)))
            have hneq : ∀ W, (binOp .neq 87 (.agg (triL u).toArray) (.agg (triL v).toArray)).run Tryz.prog W = .ok (.bool true) W := fun W => by rw [neq_tri W u v]; simp [huv]
            clear hu hv wu wv huv
            go_wp2_with fail
            generalize wr = V at HZ ⊢
            rename_i K5 hK5
            refine (wpIn_wide (n := 5)).1 (give_region (S := fun X => ZsI a b x y m1 m2 w X) (Z := []) (by kernel_rfl) (by kernel_rfl) (fun _ _ h hb => ZsI.up h hb) (fun d _ _ _ _ h => by cases d <;> exact h) (HZ.out.up (bdrew0 _ _ 1)) (fun hG vw0 hw0 => ?_))
            refine give_pure [] 0 (?_) hG rfl (by kernel_rfl) hw0 (by kernel_rfl) ?_ ?_
            rotate_left
            ·intro wz hSw; (first | (go_simp; done) | (go_simp; with_reducible rfl))
            intro vw1 hw1
            clear hw0 vw0
            (try simp only [Act.put, List.getElem_toArray, List.getElem_cons_zero, List.getElem_cons_succ, List.setIfInBounds_toArray, List.set_cons_zero, List.set_cons_succ])
            refine give_pure [] 1 (.slice (some ⟨b1, f1, none⟩) q x.tc) hG rfl (by kernel_rfl) hw1 (by kernel_rfl) ?_ ?_
            ·intro wz hSw; have c := hSw.a.c18; rw [E1.out, HQ1.out] at c; (first | (go_simp; done) | (go_simp; with_reducible rfl))
            intro vw2 hw2
            clear hw1 vw1
            (try simp only [Act.put, List.getElem_toArray, List.getElem_cons_zero, List.getElem_cons_succ, List.setIfInBounds_toArray, List.set_cons_zero, List.set_cons_succ])
            refine give_pure [] 2 (?_) hG rfl (by kernel_rfl) hw2 (by kernel_rfl) ?_ ?_
            rotate_left
            ·intro wz hSw; (first | (go_simp; done) | (go_simp; with_reducible rfl))
            intro vw3 hw3
            clear hw2 vw2
            (try simp only [Act.put, List.getElem_toArray, List.getElem_cons_zero, List.getElem_cons_succ, List.setIfInBounds_toArray, List.set_cons_zero, List.set_cons_succ])
            refine give_pure [] 3 (.pointer (some ⟨b1, f1 + i * 4, none⟩)) hG rfl (by kernel_rfl) hw3 (by kernel_rfl) ?_ ?_
            ·intro wz hSw; (first | (go_simp; done) | (go_simp; with_reducible rfl))
            intro vw4 hw4
            clear hw3 vw3
            (try simp only [Act.put, List.getElem_toArray, List.getElem_cons_zero, List.getElem_cons_succ, List.setIfInBounds_toArray, List.set_cons_zero, List.set_cons_succ])
            refine give_pure [] 4 (.agg (triL u).toArray) hG rfl (by kernel_rfl) hw4 (by kernel_rfl) ?_ ?_
            ·intro wz hSw; exact exec_load_mid 87 (.tmp 113) (by kernel_rfl) b1 (f1 + i * 4) (by kernel_rfl) (triL u) _ (RU.out _ hSw.ta) Tryz.underlying87 (by kernel_rfl) hi1.out
            intro vw5 hw5
            clear hw4 vw4
            (try simp only [Act.put, List.getElem_toArray, List.getElem_cons_zero, List.getElem_cons_succ, List.setIfInBounds_toArray, List.set_cons_zero, List.set_cons_succ])
            refine give_pure [] 5 (?_) hG rfl (by kernel_rfl) hw5 (by kernel_rfl) ?_ ?_
            rotate_left
            ·intro wz hSw; (first | (go_simp; done) | (go_simp; with_reducible rfl))
            intro vw6 hw6
            clear hw5 vw5
            (try simp only [Act.put, List.getElem_toArray, List.getElem_cons_zero, List.getElem_cons_succ, List.setIfInBounds_toArray, List.set_cons_zero, List.set_cons_succ])
            refine give_pure [] 6 (.slice (some ⟨b2, f2, none⟩) q y.tc) hG rfl (by kernel_rfl) hw6 (by kernel_rfl) ?_ ?_
            ·intro wz hSw; have c := hSw.b.c18; rw [E2.out, HQ2.out] at c; (first | (go_simp; done) | (go_simp; with_reducible rfl))
            intro vw7 hw7
            clear hw6 vw6
            (try simp only [Act.put, List.getElem_toArray, List.getElem_cons_zero, List.getElem_cons_succ, List.setIfInBounds_toArray, List.set_cons_zero, List.set_cons_succ])
            refine give_pure [] 7 (?_) hG rfl (by kernel_rfl) hw7 (by kernel_rfl) ?_ ?_
            rotate_left
            ·intro wz hSw; (first | (go_simp; done) | (go_simp; with_reducible rfl))
            intro vw8 hw8
            clear hw7 vw7
            (try simp only [Act.put, List.getElem_toArray, List.getElem_cons_zero, List.getElem_cons_succ, List.setIfInBounds_toArray, List.set_cons_zero, List.set_cons_succ])
            refine give_pure [] 8 (.pointer (some ⟨b2, f2 + i * 4, none⟩)) hG rfl (by kernel_rfl) hw8 (by kernel_rfl) ?_ ?_
            ·intro wz hSw; (first | (go_simp; done) | (go_simp; with_reducible rfl))
            intro vw9 hw9
            clear hw8 vw8
            (try simp only [Act.put, List.getElem_toArray, List.getElem_cons_zero, List.getElem_cons_succ, List.setIfInBounds_toArray, List.set_cons_zero, List.set_cons_succ])
            refine give_pure [] 9 (.agg (triL v).toArray) hG rfl (by kernel_rfl) hw9 (by kernel_rfl) ?_ ?_
            ·intro wz hSw; exact exec_load_mid 87 (.tmp 118) (by kernel_rfl) b2 (f2 + i * 4) (by kernel_rfl) (triL v) _ (RV.out _ hSw.tb) Tryz.underlying87 (by kernel_rfl) hi2.out
            intro vw10 hw10
            clear hw9 vw9
            (try simp only [Act.put, List.getElem_toArray, List.getElem_cons_zero, List.getElem_cons_succ, List.setIfInBounds_toArray, List.set_cons_zero, List.set_cons_succ])
            refine give_pure [] 10 (.bool true) hG rfl (by kernel_rfl) hw10 (by kernel_rfl) ?_ ?_
            ·intro wz hSw; (first | (go_simp; done) | (go_simp; with_reducible rfl))
            intro vw11 hw11
            clear hw10 vw10
            (try simp only [Act.put, List.getElem_toArray, List.getElem_cons_zero, List.getElem_cons_succ, List.setIfInBounds_toArray, List.set_cons_zero, List.set_cons_succ])
            refine give_done (by kernel_rfl) (?_) _
            refine hK5 _ _ ?_
            have HZ2 := Lib.hid hw11
            clear hw11 hG HZ hK5
            go_wp2_with fail
            go_ret
            exact ⟨by rw [HR.out]; first | rfl | simp, HZ2.out.s.bel⟩
          ·obtain rfl : i = q := by omega
           have t3 : ¬ (i : Int) < (i : Int) := by omega
           have HT2 : Hid (x.ts = y.ts) := Lib.hid (by have h := HTJ.out; rw [List.take_of_length_le (by rw [HQ1.out]; omega), List.take_of_length_le (by rw [HQ2.out]; omega)] at h; exact h)
           clear HTJ
           go_wp2_with fail
           go_roundg (n - (k + 1))
           case measure => omega
           case rel => exact ⟨k + 1, rfl, by go_num, by omega, HZ.out.s, HKE.out HV.out HT2.out⟩
      ·have HR := Lib.hid (HNK.out (fun e => g4 (congrArg List.length (congrArg (fun z => z.2.2.2) e))))
       rw [g1] at z0
       rw [g3] at z17
       have g5 : ¬ (x.ts.length : Int) = (y.ts.length : Int) := by omega
       clear g1 g2 g3 g4 HNK
       generalize y.id = yi at z0 y0
       generalize y.vs.length = yn at z17 y17
       generalize y.ts.length = yt at y18 g5
       generalize x.ts.length = xt at z18 g5
       refine Lib.hid ?_
       go_wp2_with (first | (with_reducible refine stop_at (some 62) rfl ?_; refine Lib.hid ?_; refine wpList_load_mid_g rfl 25 (.tmp 61) rfl wr.heap.size 1 rfl (x.m.map encI) _ HM1.out Tryz.underlying25 rfl hA.out ?_) | (with_reducible refine stop_at (some 64) rfl ?_; refine Lib.hid ?_; refine wpList_load_mid_g rfl 25 (.tmp 63) rfl X2.heap.size 1 rfl (y.m.map encI) _ HM2.out Tryz.underlying25 rfl hBm.out ?_))
       go_ret
       exact ⟨by rw [HR.out]; first | rfl | simp, HZ.out.s.bel⟩
     ·have HR := Lib.hid (HNK.out (fun e => g3 (congrArg List.length (congrArg (fun z => z.2.2.1) e))))
      rw [g1] at z0
      have g5 : ¬ (x.vs.length : Int) = (y.vs.length : Int) := by omega
      clear g1 g2 g3 z18 y18 HNK
      generalize y.id = yi at z0 y0
      generalize y.vs.length = yn at y17 g5
      generalize x.vs.length = xn at z17 g5
      refine Lib.hid ?_
      go_wp2_with (first | (with_reducible refine stop_at (some 62) rfl ?_; refine Lib.hid ?_; refine wpList_load_mid_g rfl 25 (.tmp 61) rfl wr.heap.size 1 rfl (x.m.map encI) _ HM1.out Tryz.underlying25 rfl hA.out ?_) | (with_reducible refine stop_at (some 64) rfl ?_; refine Lib.hid ?_; refine wpList_load_mid_g rfl 25 (.tmp 63) rfl X2.heap.size 1 rfl (y.m.map encI) _ HM2.out Tryz.underlying25 rfl hBm.out ?_))
      go_ret
      exact ⟨by rw [HR.out]; first | rfl | simp, HZ.out.s.bel⟩
    ·have hne : ∀ W, (binOp .neq 25 (.agg (x.m.map encI).toArray) (.agg (y.m.map encI).toArray)).run Tryz.prog W = .ok (.bool true) W := fun W => by rw [neq_mat2 W _ _ HLX.out HLY.out]; simp [g2]
     have HR := Lib.hid (HNK.out (fun e => g2 (congrArg (fun z => z.2.1) e)))
     rw [g1] at z0
     clear g1 g2 z17 y17 z18 y18 HNK
     generalize y.id = yi at z0 y0
     refine Lib.hid ?_
     go_wp2_with (first | (with_reducible refine stop_at (some 62) rfl ?_; refine Lib.hid ?_; refine wpList_load_mid_g rfl 25 (.tmp 61) rfl wr.heap.size 1 rfl (x.m.map encI) _ HM1.out Tryz.underlying25 rfl hA.out ?_) | (with_reducible refine stop_at (some 64) rfl ?_; refine Lib.hid ?_; refine wpList_load_mid_g rfl 25 (.tmp 63) rfl X2.heap.size 1 rfl (y.m.map encI) _ HM2.out Tryz.underlying25 rfl hBm.out ?_))
     go_ret
     exact ⟨by rw [HR.out]; first | rfl | simp, HZ.out.s.bel⟩
   ·have HR := Lib.hid (HNK.out (fun e => g1 (congrArg (fun z => z.1) e)))
    clear z17 y17 z18 y18 HNK
    generalize y.id = yi at y0 g1
    generalize x.id = xi at z0 g1
    refine Lib.hid ?_
    go_wp2_with (first | (with_reducible refine stop_at (some 62) rfl ?_; refine Lib.hid ?_; refine wpList_load_mid_g rfl 25 (.tmp 61) rfl wr.heap.size 1 rfl (x.m.map encI) _ HM1.out Tryz.underlying25 rfl hA.out ?_) | (with_reducible refine stop_at (some 64) rfl ?_; refine Lib.hid ?_; refine wpList_load_mid_g rfl 25 (.tmp 63) rfl X2.heap.size 1 rfl (y.m.map encI) _ HM2.out Tryz.underlying25 rfl hBm.out ?_))
    go_ret
    exact ⟨by rw [HR.out]; first | rfl | simp, HZ.out.s.bel⟩
  ·obtain rfl : k = n := by omega
   have t1 : ¬ (k : Int) < (k : Int) := by omega
   have HR := Lib.hid (takall (a := a.os.map keyO) (b := b.os.map keyO) (by rw [List.length_map]; exact HL2.out.trans HN.out) (by rw [List.length_map]; exact HN.out) HT.out)
   clear htw d18
   go_wp2_with fail
   go_ret
   exact ⟨by rw [HR.out]; first | rfl | simp, HW.out.bel⟩
end Go.Proofs.YtbbhmhihpdmoiaaGreat.Fx
