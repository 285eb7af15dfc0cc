import Derived.Test.YtbbhmhihpdmoiaaGreatJr22
set_option linter.unusedVariables false
set_option linter.unusedSimpArgs false
set_option maxRecDepth 100000
set_option maxHeartbeats 32000000
namespace Go.Proofs.YtbbhmhihpdmoiaaGreat
namespace Fx
open Go Go.RowKit Wm
theorem Pp (b v0 v1 v2 v3:Int):wB b [v0,v1,v2,v3,0,0,0,0,0,0,0,0,0,0,0,0] 16=wB b [v0,v1,v2,v3] 4:=by
 rw [Bool.eq_iff_iff,nA,nA]
 constructor
 ·intro h j hj
  have:=h j (by omega)
  have hd:j=0∨j=1∨j=2∨j=3:=by omega
  rcases hd with rfl | rfl | rfl | rfl <;> exact this
 ·intro h j hj
  have h0:0≤b:=(h 0 (by omega)).1
  by_cases h4:j < 4
  ·have:=h j h4
   have hd:j=0∨j=1∨j=2∨j=3:=by omega
   rcases hd with rfl | rfl | rfl | rfl <;> exact this
  ·have e:[v0,v1,v2,v3,0,0,0,0,0,0,0,0,0,0,0,0].getD j 0=0:=by
    have hd:j=4∨j=5∨j=6∨j=7∨j=8∨j=9∨j=10∨j=11∨j=12∨j=13∨j=14∨j=15:=by omega
    rcases hd with rfl | rfl | rfl | rfl | rfl | rfl | rfl | rfl | rfl | rfl | rfl | rfl <;> rfl
   rw [e]
   omega
theorem Sz {m v:List Int} {j:Nat} (hj:j < 4) (h:okB 4611686018427387904 (pq (rowOf m j) v)=false):sI m v=none:=by
 unfold sI
 rw [aX]
 rintro ⟨_,_,h3⟩
 have h4:=nA.1 h3 j hj
 have e:(kM m v).getD j 0=pq (rowOf m j) v:=by
  have hd:j=0∨j=1∨j=2∨j=3:=by omega
  rcases hd with rfl | rfl | rfl | rfl <;> rfl
 rw [e] at h4
 unfold okB at h
 have:=of_decide_eq_false h
 exact this h4
theorem Le {m v:List Int} (h1:wB 4611686018427387904 m 16=true) (h2:wB 4611686018427387904 v 4=true) (h:∀ j,j < 4→okB 4611686018427387904 (pq (rowOf m j) v)=true):sI m v=some (kM m v):=by
 unfold sI
 rw [aT]
 refine ⟨h1,h2,nA.2 fun j hj=>?_⟩
 have h4:=h j hj
 have e:(kM m v).getD j 0=pq (rowOf m j) v:=by
  have hd:j=0∨j=1∨j=2∨j=3:=by omega
  rcases hd with rfl | rfl | rfl | rfl <;> rfl
 rw [e]
 unfold okB at h4
 exact of_decide_eq_true h4
theorem Sy {m v:List Int} (h:wB 4611686018427387904 m 16=false):sI m v=none:=by
 unfold sI
 rw [aX]
 rintro ⟨h1,_⟩
 rw [h] at h1
 cases h1
theorem Sw {m v:List Int} (h:wB 4611686018427387904 v 4=false):sI m v=none:=by
 unfold sI
 rw [aX]
 rintro ⟨_,h1,_⟩
 rw [h] at h1
 cases h1
def ZpRel (m:List Int) (v0 v1 v2 v3:Int) (B:Nat) (w:World) (g:Nat) (s:Value) (W:World):Prop :=
 ∃ r,g=4 - r∧s=.int .i64 (r:Int)∧r≤4∧(∀ j,j < r→okB 4611686018427387904 (pq (rowOf m j) [v0,v1,v2,v3])=true)∧AI m v0 v1 v2 v3 r B w W
theorem dR.MZ {t:TypeId} {g:Nat} {x0 x1 x2 x3:Value} {W:World} (h:dR t g #[x0,x1,x2,x3] W) (y0 y1 y2 y3:Value):dR t g #[y0,y1,y2,y3] ((((W.setCell ⟨g,0,none⟩ y0).setCell ⟨g,1,none⟩ y1).setCell ⟨g,2,none⟩ y2).setCell ⟨g,3,none⟩ y3):=by
 have h1:=aK W _ 0 _ _ y0 h
 have h2:=aK _ _ 1 _ _ y1 h1
 have h3:=aK _ _ 2 _ _ y2 h2
 exact aK _ _ 3 _ _ y3 h3
theorem Below.MZ {w W:World} {g:Nat} (h:Below w.heap.size w W) (hg:w.heap.size≤g) (y0 y1 y2 y3:Value):Below w.heap.size w ((((W.setCell ⟨g,0,none⟩ y0).setCell ⟨g,1,none⟩ y1).setCell ⟨g,2,none⟩ y2).setCell ⟨g,3,none⟩ y3) :=
 (((h.setCell (p:=⟨g,0,none⟩) hg _).setCell (p:=⟨g,1,none⟩) hg _).setCell (p:=⟨g,2,none⟩) hg _).setCell (p:=⟨g,3,none⟩) hg _
theorem ZG:(Tryz.prog.info? 23).map (·.size)=some 4:=by kernel_rfl
theorem VY {m:List Int} (h:∀ j,-9223372036854775808≤m.getD j 0∧m.getD j 0≤9223372036854775807) (r:Nat):∀ j,-9223372036854775808≤(rowOf m r).getD j 0∧(rowOf m r).getD j 0≤9223372036854775807:=by
 intro j
 unfold rowOf
 match j with
 | 0=>exact h _
 | 1=>exact h _
 | 2=>exact h _
 | 3=>exact h _
 | j + 4=>simp
theorem Hm (m:List Int) (v0 v1 v2 v3:Int) (w:World) (hm:m.length=16) (bm:∀ j,-9223372036854775808≤m.getD j 0∧m.getD j 0≤9223372036854775807) (Lb:∀ j,-9223372036854775808≤[v0,v1,v2,v3].getD j 0∧[v0,v1,v2,v3].getD j 0≤9223372036854775807) :
  Calls Tryz.prog 148 #[.agg (mC m),.agg #[.int .i64 v0,.int .i64 v1,.int .i64 v2,.int .i64 v3]] w (OM (sI m [v0,v1,v2,v3]) w):=by
 have HM:=aA hm
 have kZ:(Tryz.prog.info? 25).map (·.size)=some (mC m).size:=by rw [iW,fT,hm]
 have Fu:=aA kZ
 have h3:=jU w (.cells (mC m) 25) (.cells #[.int .i64 v0,.int .i64 v1,.int .i64 v2,.int .i64 v3] 23) (.cells #[.int .i64 0,.int .i64 0,.int .i64 0,.int .i64 0] 23)
 have RM0:Hid (dR 25 w.heap.size (mC m) (((w.alloc (.cells (mC m) 25)).alloc (.cells #[.int .i64 v0,.int .i64 v1,.int .i64 v2,.int .i64 v3] 23)).alloc (.cells #[.int .i64 0,.int .i64 0,.int .i64 0,.int .i64 0] 23))):=aA h3.1
 have Vi:Hid (dR 23 (w.heap.size + 1) #[.int .i64 v0,.int .i64 v1,.int .i64 v2,.int .i64 v3] (((w.alloc (.cells (mC m) 25)).alloc (.cells #[.int .i64 v0,.int .i64 v1,.int .i64 v2,.int .i64 v3] 23)).alloc (.cells #[.int .i64 0,.int .i64 0,.int .i64 0,.int .i64 0] 23))):=aA h3.2.1
 have Vj:Hid (dR 23 (w.heap.size + 1 + 1) #[.int .i64 0,.int .i64 0,.int .i64 0,.int .i64 0] (((w.alloc (.cells (mC m) 25)).alloc (.cells #[.int .i64 v0,.int .i64 v1,.int .i64 v2,.int .i64 v3] 23)).alloc (.cells #[.int .i64 0,.int .i64 0,.int .i64 0,.int .i64 0] 23))):=aA h3.2.2
 have HB0:Hid (Below w.heap.size w (((w.alloc (.cells (mC m) 25)).alloc (.cells #[.int .i64 v0,.int .i64 v1,.int .i64 v2,.int .i64 v3] 23)).alloc (.cells #[.int .i64 0,.int .i64 0,.int .i64 0,.int .i64 0] 23))):=aA (by go_grown)
 have CW1:Hid (pO 104 #[.agg (mC m),.int .i64 4611686018427387904] (.bool (wB 4611686018427387904 m 16))):=aA fun w=>lZ m 4611686018427387904 w hm (by omega) (by omega)
 have CW2:Hid (pO 104 #[.agg (mC [v0,v1,v2,v3,0,0,0,0,0,0,0,0,0,0,0,0]),.int .i64 4611686018427387904] (.bool (wB 4611686018427387904 [v0,v1,v2,v3] 4))):=aA fun w=>by rw [←Pp];exact lZ [v0,v1,v2,v3,0,0,0,0,0,0,0,0,0,0,0,0] 4611686018427387904 w rfl (by omega) (by omega)
 obtain ⟨b1,h1⟩:∃ b,wB 4611686018427387904 m 16=b:=⟨_,rfl⟩
 obtain ⟨b2,h2⟩:∃ b,wB 4611686018427387904 [v0,v1,v2,v3] 4=b:=⟨_,rfl⟩
 rw [h1] at CW1
 rw [h2] at CW2
 have H1:=aA h1
 have H2:=aA h2
 have BM:=aA bm
 have BV:=aA Lb
 clear hm kZ h3 h1 h2 bm Lb
 go_enter Tryz.func148,Tryz.ntmps148
 go_wp2_with (refine wpList_load_row rfl 25 (.tmp 2) rfl (w.heap.size) rfl _ _ _ _ RM0.out aP rfl Fu.out ?_)
 generalize (((w.alloc (.cells (mC m) 25)).alloc (.cells #[.int .i64 v0,.int .i64 v1,.int .i64 v2,.int .i64 v3] 23)).alloc (.cells #[.int .i64 0,.int .i64 0,.int .i64 0,.int .i64 0] 23))=V at RM0 Vi Vj HB0 ⊢
 refine (CW1.out _).mono ?_
 rintro e w1 ⟨rfl,hb1⟩
 have RM1:Hid (dR 25 w.heap.size (mC m) w1):=aA (RM0.out.below hb1)
 have RV1:Hid (dR 23 (w.heap.size + 1) #[.int .i64 v0,.int .i64 v1,.int .i64 v2,.int .i64 v3] w1):=aA (Vi.out.below hb1)
 have RR1:Hid (dR 23 (w.heap.size + 1 + 1) #[.int .i64 0,.int .i64 0,.int .i64 0,.int .i64 0] w1):=aA (Vj.out.below hb1)
 have HB1:Hid (Below w.heap.size w w1):=aA (dY HB0.out hb1)
 clear RM0 Vi Vj HB0 hb1
 go_wp2_with (first | (refine wpList_load_row rfl 23 (.tmp 3) rfl (w.heap.size + 1) rfl _ _ _ _ RV1.out dB rfl (by kernel_rfl) ?_) | (refine gX rfl 25 #[(0,.tmp 14)] rfl (mC [v0,v1,v2,v3,0,0,0,0,0,0,0,0,0,0,0,0]) (by kernel_rfl) ?_))
 refine (CW2.out _).mono ?_
 rintro e w2 ⟨rfl,hb2⟩
 have RM2:Hid (dR 25 w.heap.size (mC m) w2):=aA (RM1.out.below hb2)
 have RV2:Hid (dR 23 (w.heap.size + 1) #[.int .i64 v0,.int .i64 v1,.int .i64 v2,.int .i64 v3] w2):=aA (RV1.out.below hb2)
 have CS:Hid (dR 23 (w.heap.size + 1 + 1) #[.int .i64 0,.int .i64 0,.int .i64 0,.int .i64 0] w2):=aA (RR1.out.below hb2)
 have HB2:Hid (Below w.heap.size w w2):=aA (dY HB1.out hb2)
 have hz2:w.heap.size + 1 + 1 < w2.heap.size:=CS.out.lt
 clear RM1 RV1 RR1 HB1 hb2 CW1 CW2
 cases b1 with
 | false =>
  have pJ:Hid (sI m [v0,v1,v2,v3]=none):=aA (Sy H1.out)
  have z0:=dR.cell (j:=0) CS.out
  have z1:=dR.cell (j:=1) CS.out
  have z2:=dR.cell (j:=2) CS.out
  have z3:=dR.cell (j:=3) CS.out
  have y0:=dR.free (j:=0) CS.out
  have y1:=dR.free (j:=1) CS.out
  have y2:=dR.free (j:=2) CS.out
  have y3:=dR.free (j:=3) CS.out
  simp only [List.getElem?_toArray,List.getElem?_cons_zero,List.getElem?_cons_succ] at z0 z1 z2 z3
  go_wp2_with fail
  (try simp only [Exit.inBlock,Exit.then])
  exact aO (v:=.tuple #[.agg #[.int .i64 0,.int .i64 0,.int .i64 0,.int .i64 0],.int .i64 30]) (fJ rfl _ _ (w.heap.size + 1 + 1) _ #[.int .i64 0,.int .i64 0,.int .i64 0,.int .i64 0] _ _ (.int .i64 30) rfl (CS.out.MZ _ _ _ _) dB rfl (by kernel_rfl) rfl) rfl ⟨by rw [pJ.out];rfl,Below.MZ HB2.out (by omega) _ _ _ _⟩
 | true =>
  cases b2 with
  | false =>
   have pJ:Hid (sI m [v0,v1,v2,v3]=none):=aA (Sw H2.out)
   have z0:=dR.cell (j:=0) CS.out
   have z1:=dR.cell (j:=1) CS.out
   have z2:=dR.cell (j:=2) CS.out
   have z3:=dR.cell (j:=3) CS.out
   have y0:=dR.free (j:=0) CS.out
   have y1:=dR.free (j:=1) CS.out
   have y2:=dR.free (j:=2) CS.out
   have y3:=dR.free (j:=3) CS.out
   simp only [List.getElem?_toArray,List.getElem?_cons_zero,List.getElem?_cons_succ] at z0 z1 z2 z3
   go_wp2_with fail
   (try simp only [Exit.inBlock,Exit.then])
   exact aO (v:=.tuple #[.agg #[.int .i64 0,.int .i64 0,.int .i64 0,.int .i64 0],.int .i64 30]) (fJ rfl _ _ (w.heap.size + 1 + 1) _ #[.int .i64 0,.int .i64 0,.int .i64 0,.int .i64 0] _ _ (.int .i64 30) rfl (CS.out.MZ _ _ _ _) dB rfl (by kernel_rfl) rfl) rfl ⟨by rw [pJ.out];rfl,Below.MZ HB2.out (by omega) _ _ _ _⟩
  | true =>
   have hz2':w.heap.size + 1 + 1 < (w2.alloc (.cells #[.int .i64 0,.int .i64 0,.int .i64 0,.int .i64 0] 23)).heap.size:=by simp;omega
   have Pn:Hid (AI m v0 v1 v2 v3 0 w2.heap.size w (w2.alloc (.cells #[.int .i64 0,.int .i64 0,.int .i64 0,.int .i64 0] 23))):=aA ⟨RM2.out.alloc _,RV2.out.alloc _,CS.out.alloc _,aG _ _,hz2,HB2.out.alloc HB2.out.size _⟩
   go_wp2_with fail
   generalize (w2.alloc (.cells #[.int .i64 0,.int .i64 0,.int .i64 0,.int .i64 0] 23))=V2 at Pn ⊢
   generalize w2.heap.size=B at Pn ⊢
   clear RM2 RV2 CS HB2 hz2 hz2'
   go_loopg [9] 4 (ZpRel m v0 v1 v2 v3 B w)
   case atStart=>exact ⟨0,rfl,rfl,by omega,fun j hj=>absurd hj (by omega),Pn.out⟩
   case round =>
    clear Pn
    obtain ⟨r,hg,rfl,hr4,hok,I⟩:=hrel
    have HI:=aA I
    have jY:=aA hok
    clear I hok
    subst hg
    by_cases hr:r < 4
    ·have r1:(r:Int) < 4:=by omega
     obtain ⟨q,hq⟩:∃ q,pq (rowOf m r) [v0,v1,v2,v3]=q:=⟨_,rfl⟩
     have GY:Hid (∀ W,AI m v0 v1 v2 v3 r B w W→AI m v0 v1 v2 v3 (r + 1) B w (W.setCell ⟨B,r,none⟩ (.int .i64 q))):=aA (fun W h=>by have:=h.next hr;rw [hq] at this;exact this)
     have cS:Hid (pO 154 #[.agg #[.int .i64 (m.getD (r * 4) 0),.int .i64 (m.getD (r * 4 + 1) 0),.int .i64 (m.getD (r * 4 + 2) 0),.int .i64 (m.getD (r * 4 + 3) 0)],.agg #[.int .i64 v0,.int .i64 v1,.int .i64 v2,.int .i64 v3]] (.tuple #[.int .i64 (xN q),.bool (okB 4611686018427387904 q)])):=aA fun w=>by
      have:=XT (rowOf m r) [v0,v1,v2,v3] w rfl rfl (VY BM.out r) BV.out
      rw [hq] at this
      exact this
     have hc0:Hid (∀ W,dR 25 w.heap.size (mC m) W→W.cell? ⟨w.heap.size,r * 4,none⟩=some (.int .i64 (m.getD (r * 4) 0))∧W.cell? ⟨w.heap.size,r * 4 + 1,none⟩=some (.int .i64 (m.getD (r * 4 + 1) 0))∧W.cell? ⟨w.heap.size,r * 4 + 2,none⟩=some (.int .i64 (m.getD (r * 4 + 2) 0))∧W.cell? ⟨w.heap.size,r * 4 + 3,none⟩=some (.int .i64 (m.getD (r * 4 + 3) 0))):=aA (fun W h=>⟨by rw [h.cell,kF (by rw [HM.out];omega)],by rw [h.cell,kF (by rw [HM.out];omega)],by rw [h.cell,kF (by rw [HM.out];omega)],by rw [h.cell,kF (by rw [HM.out];omega)]⟩)
     have HQ:=aA hq
     generalize m.getD (r * 4) 0=a0 at cS hc0
     generalize m.getD (r * 4 + 1) 0=a1 at cS hc0
     generalize m.getD (r * 4 + 2) 0=a2 at cS hc0
     generalize m.getD (r * 4 + 3) 0=a3 at cS hc0
     obtain ⟨bq,hbq⟩:∃ b,okB 4611686018427387904 q=b:=⟨_,rfl⟩
     obtain ⟨n,hn⟩:∃ n,xN q=n:=⟨_,rfl⟩
     rw [hbq,hn] at cS
     have HBQ:=aA hbq
     have hnq:bq=true→n=q:=fun h=>by rw [←hn];unfold xN;rw [hbq,h];rfl
     have HNQ:=aA hnq
     clear hq hbq hn hnq
     go_wp2_with fail
     rename_i K9 hK9
     refine (bG (n:=5)).1 (fA (S:=fun X=>Below wr.heap.size wr X) (Z:=[]) (by kernel_rfl) (by kernel_rfl) eU (fun d _ _ _ _ h=>by cases d <;> exact h) (fG _ _ 1) (fun hG qR hw0=>?_))
     refine eG [] 0 (?_) hG rfl (by kernel_rfl) hw0 (by kernel_rfl) ?_ ?_
     rotate_left
     ·intro wz hSw;(first | (go_simp;done) | (go_simp;with_reducible rfl))
     intro qQ hw1 hbn
     clear hbn hw0 qR
     try simp only [aQ]
     refine eG [] 1 (.pointer (some ⟨w.heap.size,r * 4,none⟩)) hG rfl (by kernel_rfl) hw1 (by kernel_rfl) ?_ ?_
     ·intro wz hSw;(first | (go_simp;done) | (go_simp;with_reducible rfl))
     intro qP hw2 hbn
     clear hbn hw1 qQ
     try simp only [aQ]
     refine eG [] 2 (.agg #[.int .i64 a0,.int .i64 a1,.int .i64 a2,.int .i64 a3]) hG rfl (by kernel_rfl) hw2 (by kernel_rfl) ?_ ?_
     ·intro wz hSw;obtain ⟨c0,c1,c2,c3⟩:=hc0.out wz (dR.below hSw HI.out.bm);(first | (go_simp;done) | (go_simp;with_reducible rfl))
     intro qO hw3 hbn
     clear hbn hw2 qP
     try simp only [aQ]
     refine eG [] 3 (.agg #[.int .i64 v0,.int .i64 v1,.int .i64 v2,.int .i64 v3]) hG rfl (by kernel_rfl) hw3 (by kernel_rfl) ?_ ?_
     ·intro wz hSw;exact eO 23 (.tmp 3) (by kernel_rfl) (w.heap.size + 1) (by kernel_rfl) _ _ _ _ (dR.below hSw HI.out.bv) dB (by kernel_rfl) (by kernel_rfl)
     intro qN hw4 hbn
     clear hbn hw3 qO
     try simp only [aQ]
     refine kQ [] 4 154 #[.agg #[.int .i64 a0,.int .i64 a1,.int .i64 a2,.int .i64 a3],.agg #[.int .i64 v0,.int .i64 v1,.int .i64 v2,.int .i64 v3]] (.tuple #[.int .i64 n,.bool bq]) hG rfl (by kernel_rfl) hw4 (by kernel_rfl) ?_ (cS.out) ?_
     ·intro wz;(first | (go_simp;done) | (go_simp;with_reducible rfl))
     intro qM lK hbn
     clear hbn hw4 qN
     try simp only [aQ]
     refine eG [] 5 (?_) hG rfl (by kernel_rfl) lK (by kernel_rfl) ?_ ?_
     rotate_left
     ·intro wz hSw;(first | (go_simp;done) | (go_simp;with_reducible rfl))
     intro qL kP hbn
     clear hbn lK qM
     try simp only [aQ]
     refine eG [] 6 (?_) hG rfl (by kernel_rfl) kP (by kernel_rfl) ?_ ?_
     rotate_left
     ·intro wz hSw;(first | (go_simp;done) | (go_simp;with_reducible rfl))
     intro pQ hw7 hbn
     clear hbn kP qL
     try simp only [aQ]
     refine eG [] 7 (?_) hG rfl (by kernel_rfl) hw7 (by kernel_rfl) ?_ ?_
     rotate_left
     ·intro wz hSw;(first | (go_simp;done) | (go_simp;with_reducible rfl))
     intro rA hw8 hbn
     clear hbn hw7 pQ
     try simp only [aQ]
     refine eG [] 8 (?_) hG rfl (by kernel_rfl) hw8 (by kernel_rfl) ?_ ?_
     rotate_left
     ·intro wz hSw;(first | (go_simp;done) | (go_simp;with_reducible rfl))
     intro qZ mH hbn
     clear hbn hw8 rA
     try simp only [aQ]
     refine eG [] 9 (?_) hG rfl (by kernel_rfl) mH (by kernel_rfl) ?_ ?_
     rotate_left
     ·intro wz hSw;(first | (go_simp;done) | (go_simp;with_reducible rfl))
     intro jM iF hbn
     clear hbn mH qZ
     try simp only [aQ]
     refine fF (by kernel_rfl) (?_) _
     refine hK9 _ _ ?_
     have I1:=aA (HI.out.up iF)
     clear hK9 hG HI cS hc0 iF
     cases bq with
     | false =>
      have pJ:Hid (sI m [v0,v1,v2,v3]=none):=aA (Sz hr (by rw [HQ.out];exact HBQ.out))
      have z0:=dR.cell (j:=0) (show dR 23 (w.heap.size + 1 + 1) #[.int .i64 0,.int .i64 0,.int .i64 0,.int .i64 0] _ from I1.out.br)
      have z1:=dR.cell (j:=1) (show dR 23 (w.heap.size + 1 + 1) #[.int .i64 0,.int .i64 0,.int .i64 0,.int .i64 0] _ from I1.out.br)
      have z2:=dR.cell (j:=2) (show dR 23 (w.heap.size + 1 + 1) #[.int .i64 0,.int .i64 0,.int .i64 0,.int .i64 0] _ from I1.out.br)
      have z3:=dR.cell (j:=3) (show dR 23 (w.heap.size + 1 + 1) #[.int .i64 0,.int .i64 0,.int .i64 0,.int .i64 0] _ from I1.out.br)
      have y0:=dR.free (j:=0) (show dR 23 (w.heap.size + 1 + 1) #[.int .i64 0,.int .i64 0,.int .i64 0,.int .i64 0] _ from I1.out.br)
      have y1:=dR.free (j:=1) (show dR 23 (w.heap.size + 1 + 1) #[.int .i64 0,.int .i64 0,.int .i64 0,.int .i64 0] _ from I1.out.br)
      have y2:=dR.free (j:=2) (show dR 23 (w.heap.size + 1 + 1) #[.int .i64 0,.int .i64 0,.int .i64 0,.int .i64 0] _ from I1.out.br)
      have y3:=dR.free (j:=3) (show dR 23 (w.heap.size + 1 + 1) #[.int .i64 0,.int .i64 0,.int .i64 0,.int .i64 0] _ from I1.out.br)
      simp only [List.getElem?_toArray,List.getElem?_cons_zero,List.getElem?_cons_succ] at z0 z1 z2 z3
      go_wp2_with fail
      (try simp only [Exit.inBlock,Exit.then])
      exact aO (v:=.tuple #[.agg #[.int .i64 0,.int .i64 0,.int .i64 0,.int .i64 0],.int .i64 30]) (fJ rfl _ _ (w.heap.size + 1 + 1) _ #[.int .i64 0,.int .i64 0,.int .i64 0,.int .i64 0] _ _ (.int .i64 30) rfl (dR.MZ (show dR 23 (w.heap.size + 1 + 1) #[.int .i64 0,.int .i64 0,.int .i64 0,.int .i64 0] _ from I1.out.br) _ _ _ _) dB rfl (by kernel_rfl) rfl) rfl ⟨by rw [pJ.out];rfl,Below.MZ I1.out.below (by omega) _ _ _ _⟩
     | true =>
      obtain rfl:=HNQ.out rfl
      have cb:jM.cell? ⟨B,r,none⟩=some (.int .i64 ((Og m [v0,v1,v2,v3] r).getD r 0)):=by rw [aF _ _ _ _ _ _ I1.out.ba,wX _ _ (by rw [SG];exact hr)]
      have fb:jM.frozen? ⟨B,r,none⟩=false:=dU I1.out.ba
      have I2:=aA (GY.out _ I1.out)
      clear I1 GY
      go_wp2_with fail
      go_roundg (4 - (r + 1))
      case measure=>omega
      case rel =>
       refine ⟨r + 1,rfl,by go_num,by omega,fun j hj=>?_,I2.out⟩
       by_cases hjr:j < r
       ·exact jY.out j hjr
       ·rw [show j=r by omega,HQ.out];exact HBQ.out
    ·obtain rfl:r=4:=by omega
     have r1:¬ ((4:Nat):Int) < 4:=by omega
     have WU:Hid (sI m [v0,v1,v2,v3]=some (kM m [v0,v1,v2,v3])):=aA (Le H1.out H2.out jY.out)
     have RB:Hid (dR 23 B (mC (kM m [v0,v1,v2,v3])) wr):=aA (by have:=HI.out.ba;rw [SH] at this;exact this)
     have RR:Hid (dR 23 (w.heap.size + 1 + 1) #[.int .i64 0,.int .i64 0,.int .i64 0,.int .i64 0] wr):=aA HI.out.br
     have HE:Hid (Below w.heap.size w (wr.setRow (w.heap.size + 1 + 1) (mC (kM m [v0,v1,v2,v3])))):=aA (Below.row HI.out.below (by omega) _)
     clear HI
     go_wp2_with (first | (refine wpList_load_row rfl 23 (.tmp 8) rfl (B) rfl _ _ _ _ RB.out dB rfl (by kernel_rfl) ?_) | (refine dQ rfl 23 (.tmp 4) (.tmp 43) rfl (w.heap.size + 1 + 1) _ _ (mC (kM m [v0,v1,v2,v3])) rfl rfl RR.out (by kernel_rfl) rfl (iY _) ?_))
     exact aO (v:=.tuple #[.agg (mC (kM m [v0,v1,v2,v3])),.int .i64 0]) (fJ rfl _ _ (w.heap.size + 1 + 1) _ (mC (kM m [v0,v1,v2,v3])) _ _ (.int .i64 0) rfl (RR.out.row _) dB rfl (by kernel_rfl) rfl) rfl ⟨by rw [WU.out];rfl,HE.out⟩
theorem LZ (m v:List Int) (w:World) (hm:m.length=16) (hv:v.length=4) (bm:∀ j,-9223372036854775808≤m.getD j 0∧m.getD j 0≤9223372036854775807) (Lb:∀ j,-9223372036854775808≤v.getD j 0∧v.getD j 0≤9223372036854775807) :
  Calls Tryz.prog 148 #[.agg (mC m),.agg (mC v)] w (OM (sI m v) w):=by
 have e:=Bf hv
 rw [e] at Lb ⊢
 exact Hm m _ _ _ _ w hm bm Lb
def OB (a b:List Int) (c r:Nat):Int:=((oK a b c).getD []).getD r 0
def EY (a b:List Int) (c r:Nat):List Int:=(List.range 16).map fun p=>if p % 4 < c∨(p % 4=c∧p / 4 < r) then OB a b (p % 4) (p / 4) else 0
theorem Aj (a b:List Int) (c r:Nat):(EY a b c r).length=16:=by simp [EY]
theorem Al (a b:List Int) (c:Nat) (hc:c < 4):EY a b c 4=EY a b (c + 1) 0:=by
 have hd:c=0∨c=1∨c=2∨c=3:=by omega
 rcases hd with rfl | rfl | rfl | rfl <;> rfl
theorem Ak (a b:List Int):EY a b 4 0=tr (EB a b):=rfl
theorem VC (a b:List Int) (c r:Nat) (hc:c < 4) (hr:r < 4):(EY a b c r).set (r * 4 + c) (OB a b c r)=EY a b c (r + 1):=by
 have hd:c=0∨c=1∨c=2∨c=3:=by omega
 have he:r=0∨r=1∨r=2∨r=3:=by omega
 rcases hd with rfl | rfl | rfl | rfl <;> rcases he with rfl | rfl | rfl | rfl <;> rfl
theorem FZ (b:List Int) (c:Nat) (hc:c < 4):rowOf (tr b) c=[b.getD c 0,b.getD (4 + c) 0,b.getD (8 + c) 0,b.getD (12 + c) 0]:=by
 have hd:c=0∨c=1∨c=2∨c=3:=by omega
 rcases hd with rfl | rfl | rfl | rfl <;> rfl
structure XM (a b:List Int) (B c r:Nat) (w W:World):Prop where
 ra:dR 25 w.heap.size (mC a) W
 rb:dR 25 (w.heap.size + 1) (mC b) W
 rr:dR 25 (w.heap.size + 1 + 1) (mC eX) W
 ro:dR 25 B (mC (EY a b c r)) W
 below:Below w.heap.size w W
 lt:w.heap.size + 1 + 1 < B
theorem XM.up {a b:List Int} {B c r:Nat} {w W V:World} (i:XM a b B c r w W) (hb:Below W.heap.size W V):XM a b B c r w V:=⟨i.ra.below hb,i.rb.below hb,i.rr.below hb,i.ro.below hb,dY i.below hb,i.lt⟩
theorem dR.iX {t:TypeId} {g k j:Nat} {cs:Array Value} {W:World} (h:dR t g cs W) (hk:g≠k) (v:Value):dR t g cs (W.setCell ⟨k,j,none⟩ v):=by unfold dR;rw [aH _ _ _ _ (by show g≠k;exact hk)];exact h
theorem XM.next {a b:List Int} {B c r:Nat} {w W:World} (i:XM a b B c r w W) (hc:c < 4) (hr:r < 4):XM a b B c (r + 1) w (W.setCell ⟨B,r * 4 + c,none⟩ (.int .i64 (OB a b c r))):=by
 have hB:=i.lt
 refine ⟨i.ra.iX (by omega) _,i.rb.iX (by omega) _,i.rr.iX (by omega) _,?_,i.below.setCell (p:=⟨B,r * 4 + c,none⟩) (by show _≤B;omega) _,hB⟩
 have:=aK _ _ (r * 4 + c) _ _ (.int .i64 (OB a b c r)) i.ro
 unfold dR
 rw [this,FH,VC _ _ _ _ hc hr]
def MzRel (a b:List Int) (B:Nat) (w:World) (g:Nat) (s:Value) (W:World):Prop :=
 ∃ c,g=4 - c∧s=.int .i64 (c:Int)∧c≤4∧(∀ j,j < c→(oK a b j).isSome=true)∧XM a b B c 0 w W
def MyRel (a b:List Int) (B c bC:Nat) (u:List Int) (w:World) (g:Nat) (s:Value) (W:World):Prop :=
 ∃ r,g=4 - r∧s=.int .i64 (r:Int)∧r≤4∧XM a b B c r w W∧dR 23 bC (mC u) W
theorem Dt {a b:List Int} {c:Nat} {u:List Int} (h:oK a b c=some u):u.length=4:=by
 unfold oK sI at h
 split at h
 ·cases h;rfl
 ·cases h
theorem Jh {a b:List Int} (h:∀ j,j < 4→(oK a b j).isSome=true):oU a b=some (tr (EB a b)):=by
 unfold oU
 rw [aT ⟨h 0 (by omega),h 1 (by omega),h 2 (by omega),h 3 (by omega)⟩]
theorem TU (a b:List Int) (w:World) (la:a.length=16) (lb:b.length=16) (ba:∀ j,-9223372036854775808≤a.getD j 0∧a.getD j 0≤9223372036854775807) (bb:∀ j,-9223372036854775808≤b.getD j 0∧b.getD j 0≤9223372036854775807) :
  Calls Tryz.prog 133 #[.agg (mC a),.agg (mC b)] w (SY (oU a b) w):=by
 have LA:=aA la
 have LB:=aA lb
 have BA:=aA ba
 have BBd:=aA bb
 have kZ:(Tryz.prog.info? 25).map (·.size)=some (mC a).size:=by rw [iW,fT,la]
 have Fu:=aA kZ
 have h3:=jU w (.cells (mC a) 25) (.cells (mC b) 25) (.cells #[.int .i64 0,.int .i64 0,.int .i64 0,.int .i64 0,.int .i64 0,.int .i64 0,.int .i64 0,.int .i64 0,.int .i64 0,.int .i64 0,.int .i64 0,.int .i64 0,.int .i64 0,.int .i64 0,.int .i64 0,.int .i64 0] 25)
 have RA0:Hid (dR 25 w.heap.size (mC a) (((w.alloc (.cells (mC a) 25)).alloc (.cells (mC b) 25)).alloc (.cells #[.int .i64 0,.int .i64 0,.int .i64 0,.int .i64 0,.int .i64 0,.int .i64 0,.int .i64 0,.int .i64 0,.int .i64 0,.int .i64 0,.int .i64 0,.int .i64 0,.int .i64 0,.int .i64 0,.int .i64 0,.int .i64 0] 25))):=aA h3.1
 have RB0:Hid (dR 25 (w.heap.size + 1) (mC b) (((w.alloc (.cells (mC a) 25)).alloc (.cells (mC b) 25)).alloc (.cells #[.int .i64 0,.int .i64 0,.int .i64 0,.int .i64 0,.int .i64 0,.int .i64 0,.int .i64 0,.int .i64 0,.int .i64 0,.int .i64 0,.int .i64 0,.int .i64 0,.int .i64 0,.int .i64 0,.int .i64 0,.int .i64 0] 25))):=aA h3.2.1
 have Vj:Hid (dR 25 (w.heap.size + 1 + 1) (mC eX) (((w.alloc (.cells (mC a) 25)).alloc (.cells (mC b) 25)).alloc (.cells #[.int .i64 0,.int .i64 0,.int .i64 0,.int .i64 0,.int .i64 0,.int .i64 0,.int .i64 0,.int .i64 0,.int .i64 0,.int .i64 0,.int .i64 0,.int .i64 0,.int .i64 0,.int .i64 0,.int .i64 0,.int .i64 0] 25))):=aA h3.2.2
 have HB0:Hid (Below w.heap.size w (((w.alloc (.cells (mC a) 25)).alloc (.cells (mC b) 25)).alloc (.cells #[.int .i64 0,.int .i64 0,.int .i64 0,.int .i64 0,.int .i64 0,.int .i64 0,.int .i64 0,.int .i64 0,.int .i64 0,.int .i64 0,.int .i64 0,.int .i64 0,.int .i64 0,.int .i64 0,.int .i64 0,.int .i64 0] 25))):=aA (by go_grown)
 clear la lb ba bb kZ h3
 have hsz:((((w.alloc (.cells (mC a) 25)).alloc (.cells (mC b) 25)).alloc (.cells #[.int .i64 0,.int .i64 0,.int .i64 0,.int .i64 0,.int .i64 0,.int .i64 0,.int .i64 0,.int .i64 0,.int .i64 0,.int .i64 0,.int .i64 0,.int .i64 0,.int .i64 0,.int .i64 0,.int .i64 0,.int .i64 0] 25))).heap.size=w.heap.size + 1 + 1 + 1:=by simp
 have RN:Hid (dR 25 (w.heap.size + 1 + 1 + 1) (mC eX) ((((w.alloc (.cells (mC a) 25)).alloc (.cells (mC b) 25)).alloc (.cells #[.int .i64 0,.int .i64 0,.int .i64 0,.int .i64 0,.int .i64 0,.int .i64 0,.int .i64 0,.int .i64 0,.int .i64 0,.int .i64 0,.int .i64 0,.int .i64 0,.int .i64 0,.int .i64 0,.int .i64 0,.int .i64 0] 25)).alloc (.cells #[.int .i64 0,.int .i64 0,.int .i64 0,.int .i64 0,.int .i64 0,.int .i64 0,.int .i64 0,.int .i64 0,.int .i64 0,.int .i64 0,.int .i64 0,.int .i64 0,.int .i64 0,.int .i64 0,.int .i64 0,.int .i64 0] 25))):=aA (by rw [←hsz];exact aG _ _)
 have I0:Hid (XM a b (w.heap.size + 1 + 1 + 1) 0 0 w (((((w.alloc (.cells (mC a) 25)).alloc (.cells (mC b) 25)).alloc (.cells #[.int .i64 0,.int .i64 0,.int .i64 0,.int .i64 0,.int .i64 0,.int .i64 0,.int .i64 0,.int .i64 0,.int .i64 0,.int .i64 0,.int .i64 0,.int .i64 0,.int .i64 0,.int .i64 0,.int .i64 0,.int .i64 0] 25)).alloc (.cells #[.int .i64 0,.int .i64 0,.int .i64 0,.int .i64 0,.int .i64 0,.int .i64 0,.int .i64 0,.int .i64 0,.int .i64 0,.int .i64 0,.int .i64 0,.int .i64 0,.int .i64 0,.int .i64 0,.int .i64 0,.int .i64 0] 25)).setRow (w.heap.size + 1 + 1 + 1) (mC eX))):=aA ⟨(RA0.out.alloc _).other (by omega) _,(RB0.out.alloc _).other (by omega) _,(Vj.out.alloc _).other (by omega) _,RN.out.row _,Below.row (HB0.out.alloc HB0.out.size _) (by omega) _,by omega⟩
 clear RA0 RB0 Vj HB0 hsz
 go_enter Tryz.func133,Tryz.ntmps133
 go_wp2_with (first | (refine gX rfl 25 #[] rfl (mC eX) (by kernel_rfl) ?_) | (refine dQ rfl 25 (.tmp 6) (.tmp 11) rfl (w.heap.size + 1 + 1 + 1) _ _ (mC eX) rfl rfl RN.out iW rfl (iY _) ?_))
 generalize (((((w.alloc (.cells (mC a) 25)).alloc (.cells (mC b) 25)).alloc (.cells #[.int .i64 0,.int .i64 0,.int .i64 0,.int .i64 0,.int .i64 0,.int .i64 0,.int .i64 0,.int .i64 0,.int .i64 0,.int .i64 0,.int .i64 0,.int .i64 0,.int .i64 0,.int .i64 0,.int .i64 0,.int .i64 0] 25)).alloc (.cells #[.int .i64 0,.int .i64 0,.int .i64 0,.int .i64 0,.int .i64 0,.int .i64 0,.int .i64 0,.int .i64 0,.int .i64 0,.int .i64 0,.int .i64 0,.int .i64 0,.int .i64 0,.int .i64 0,.int .i64 0,.int .i64 0] 25)).setRow (w.heap.size + 1 + 1 + 1) (mC eX))=V2 at I0 ⊢
 clear RN
 generalize w.heap.size + 1 + 1 + 1=B at I0 ⊢
 go_loopg [7] 4 (MzRel a b B w)
 case atStart=>exact ⟨0,rfl,rfl,by omega,fun j hj=>absurd hj (by omega),I0.out⟩
 case round =>
  clear I0
  obtain ⟨c,hg,rfl,hc4,hok,I⟩:=hrel
  have HI:=aA I
  have jY:=aA hok
  clear I hok
  subst hg
  by_cases hc:c < 4
  ·have c1:(c:Int) < 4:=by omega
   obtain ⟨o,ho⟩:∃ o,oK a b c=o:=⟨_,rfl⟩
   obtain ⟨u,hu⟩:∃ u,o.getD [0,0,0,0]=u:=⟨_,rfl⟩
   obtain ⟨er,her⟩:∃ er:Int,(if o.isSome then (0:Int) else 30)=er:=⟨_,rfl⟩
   have hlu:u.length=4:=by
    rw [←hu]
    cases o with
    | none=>rfl
    | some x=>exact Dt ho
   have cA:Hid (pO 148 #[.agg (mC a),.agg #[.int .i64 (b.getD c 0),.int .i64 (b.getD (4 + c) 0),.int .i64 (b.getD (8 + c) 0),.int .i64 (b.getD (12 + c) 0)]] (.tuple #[.agg (mC u),.int .i64 er])):=aA fun w=>by
    have:=LZ a (rowOf (tr b) c) w LA.out rfl BA.out (by
     rw [FZ b c hc]
     intro j
     match j with
     | 0=>exact BBd.out _
     | 1=>exact BBd.out _
     | 2=>exact BBd.out _
     | 3=>exact BBd.out _
     | j + 4=>simp)
    rw [FZ b c hc] at this
    have e:sI a [b.getD c 0,b.getD (4 + c) 0,b.getD (8 + c) 0,b.getD (12 + c) 0]=o:=by rw [←ho];unfold oK;rw [FZ b c hc]
    rw [e] at this
    unfold OM at this
    rw [hu,her] at this
    exact this
   have hcb:Hid (∀ W,dR 25 (w.heap.size + 1) (mC b) W→W.cell? ⟨w.heap.size + 1,c,none⟩=some (.int .i64 (b.getD c 0))∧W.cell? ⟨w.heap.size + 1,4 + c,none⟩=some (.int .i64 (b.getD (4 + c) 0))∧W.cell? ⟨w.heap.size + 1,8 + c,none⟩=some (.int .i64 (b.getD (8 + c) 0))∧W.cell? ⟨w.heap.size + 1,12 + c,none⟩=some (.int .i64 (b.getD (12 + c) 0))):=aA (fun W h=>⟨by rw [h.cell,kF (by rw [LB.out];omega)],by rw [h.cell,kF (by rw [LB.out];omega)],by rw [h.cell,kF (by rw [LB.out];omega)],by rw [h.cell,kF (by rw [LB.out];omega)]⟩)
   have HO:=aA ho
   have HU:=aA hu
   have HER:=aA her
   have HLU:=aA hlu
   have Xn:(Tryz.prog.info? 23).map (·.size)=some (mC u).size:=by rw [ZG,fT,hlu]
   have OP:=aA Xn
   clear ho hu her hlu Xn
   generalize b.getD c 0=b0 at cA hcb
   generalize b.getD (4 + c) 0=b1 at cA hcb
   generalize b.getD (8 + c) 0=b2 at cA hcb
   generalize b.getD (12 + c) 0=b3 at cA hcb
   go_wp2_with fail
   rename_i K5 DW
   refine (bG (n:=5)).1 (fA (S:=fun X=>Below wr.heap.size wr X) (Z:=[]) (by kernel_rfl) (by kernel_rfl) eU (fun d _ _ _ _ h=>by cases d <;> exact h) (fG _ _ 1) (fun hG qR hw0=>?_))
   refine eG [] 0 (.agg (mC a)) hG rfl (by kernel_rfl) hw0 (by kernel_rfl) ?_ ?_
   ·intro wz hSw;exact eO 25 (.tmp 2) (by kernel_rfl) (w.heap.size) (by kernel_rfl) _ _ _ _ (dR.below hSw HI.out.ra) aP (by kernel_rfl) Fu.out
   intro qQ hw1 hbn
   clear hbn hw0 qR
   try simp only [aQ]
   refine eG [] 1 (?_) hG rfl (by kernel_rfl) hw1 (by kernel_rfl) ?_ ?_
   rotate_left
   ·intro wz hSw;(first | (go_simp;done) | (go_simp;with_reducible rfl))
   intro qP hw2 hbn
   clear hbn hw1 qQ
   try simp only [aQ]
   refine eG [] 2 (?_) hG rfl (by kernel_rfl) hw2 (by kernel_rfl) ?_ ?_
   rotate_left
   ·intro wz hSw;(first | (go_simp;done) | (go_simp;with_reducible rfl))
   intro qO hw3 hbn
   clear hbn hw2 qP
   try simp only [aQ]
   refine eG [] 3 (.pointer (some ⟨w.heap.size + 1,c,none⟩)) hG rfl (by kernel_rfl) hw3 (by kernel_rfl) ?_ ?_
   ·intro wz hSw;(first | (go_simp;done) | (go_simp;with_reducible rfl))
   intro qN hw4 hbn
   clear hbn hw3 qO
   try simp only [aQ]
   refine eG [] 4 (.int .i64 b0) hG rfl (by kernel_rfl) hw4 (by kernel_rfl) ?_ ?_
   ·intro wz hSw;obtain ⟨q0,q1,q2,q3⟩:=hcb.out wz (dR.below hSw HI.out.rb);(first | (go_simp;done) | (go_simp;with_reducible rfl))
   intro qM lK hbn
   clear hbn hw4 qN
   try simp only [aQ]
   refine eG [] 5 (?_) hG rfl (by kernel_rfl) lK (by kernel_rfl) ?_ ?_
   rotate_left
   ·intro wz hSw;(first | (go_simp;done) | (go_simp;with_reducible rfl))
   intro qL kP hbn
   clear hbn lK qM
   try simp only [aQ]
   refine eG [] 6 (?_) hG rfl (by kernel_rfl) kP (by kernel_rfl) ?_ ?_
   rotate_left
   ·intro wz hSw;(first | (go_simp;done) | (go_simp;with_reducible rfl))
   intro pQ hw7 hbn
   clear hbn kP qL
   try simp only [aQ]
   refine eG [] 7 (.pointer (some ⟨w.heap.size + 1,4 + c,none⟩)) hG rfl (by kernel_rfl) hw7 (by kernel_rfl) ?_ ?_
   ·intro wz hSw;(first | (go_simp;done) | (go_simp;with_reducible rfl))
   intro rA hw8 hbn
   clear hbn hw7 pQ
   try simp only [aQ]
   refine eG [] 8 (.int .i64 b1) hG rfl (by kernel_rfl) hw8 (by kernel_rfl) ?_ ?_
   ·intro wz hSw;obtain ⟨q0,q1,q2,q3⟩:=hcb.out wz (dR.below hSw HI.out.rb);(first | (go_simp;done) | (go_simp;with_reducible rfl))
   intro qZ mH hbn
   clear hbn hw8 rA
   try simp only [aQ]
   refine eG [] 9 (?_) hG rfl (by kernel_rfl) mH (by kernel_rfl) ?_ ?_
   rotate_left
   ·intro wz hSw;(first | (go_simp;done) | (go_simp;with_reducible rfl))
   intro jM iF hbn
   clear hbn mH qZ
   try simp only [aQ]
   refine eG [] 10 (?_) hG rfl (by kernel_rfl) iF (by kernel_rfl) ?_ ?_
   rotate_left
   ·intro wz hSw;(first | (go_simp;done) | (go_simp;with_reducible rfl))
   intro kW iN hbn
   clear hbn iF jM
   try simp only [aQ]
   refine eG [] 11 (.pointer (some ⟨w.heap.size + 1,8 + c,none⟩)) hG rfl (by kernel_rfl) iN (by kernel_rfl) ?_ ?_
   ·intro wz hSw;(first | (go_simp;done) | (go_simp;with_reducible rfl))
   intro mD jG hbn
   clear hbn iN kW
   try simp only [aQ]
   refine eG [] 12 (.int .i64 b2) hG rfl (by kernel_rfl) jG (by kernel_rfl) ?_ ?_
   ·intro wz hSw;obtain ⟨q0,q1,q2,q3⟩:=hcb.out wz (dR.below hSw HI.out.rb);(first | (go_simp;done) | (go_simp;with_reducible rfl))
   intro nC jR hbn
   clear hbn jG mD
   try simp only [aQ]
   refine eG [] 13 (?_) hG rfl (by kernel_rfl) jR (by kernel_rfl) ?_ ?_
   rotate_left
   ·intro wz hSw;(first | (go_simp;done) | (go_simp;with_reducible rfl))
   intro nT jN hbn
   clear hbn jR nC
   try simp only [aQ]
   refine eG [] 14 (?_) hG rfl (by kernel_rfl) jN (by kernel_rfl) ?_ ?_
   rotate_left
   ·intro wz hSw;(first | (go_simp;done) | (go_simp;with_reducible rfl))
   intro oP kK hbn
   clear hbn jN nT
   try simp only [aQ]
   refine eG [] 15 (.pointer (some ⟨w.heap.size + 1,12 + c,none⟩)) hG rfl (by kernel_rfl) kK (by kernel_rfl) ?_ ?_
   ·intro wz hSw;(first | (go_simp;done) | (go_simp;with_reducible rfl))
   intro xA hw16 hbn
   clear hbn kK oP
   try simp only [aQ]
   refine eG [] 16 (.int .i64 b3) hG rfl (by kernel_rfl) hw16 (by kernel_rfl) ?_ ?_
   ·intro wz hSw;obtain ⟨q0,q1,q2,q3⟩:=hcb.out wz (dR.below hSw HI.out.rb);(first | (go_simp;done) | (go_simp;with_reducible rfl))
   intro vw17 Ye hbn
   clear hbn hw16 xA
   try simp only [aQ]
   refine eG [] 17 (.agg #[.int .i64 b0,.int .i64 b1,.int .i64 b2,.int .i64 b3]) hG rfl (by kernel_rfl) Ye (by kernel_rfl) ?_ ?_
   ·intro wz hSw;(first | (go_simp;done) | (go_simp;with_reducible rfl))
   intro vw18 Yd hbn
   clear hbn Ye vw17
   try simp only [aQ]
   refine kQ [] 18 148 #[.agg (mC a),.agg #[.int .i64 b0,.int .i64 b1,.int .i64 b2,.int .i64 b3]] (.tuple #[.agg (mC u),.int .i64 er]) hG rfl (by kernel_rfl) Yd (by kernel_rfl) ?_ (cA.out) ?_
   ·intro wz;(first | (go_simp;done) | (go_simp;with_reducible rfl))
   intro vw19 Yc hbn
   clear hbn Yd vw18
   try simp only [aQ]
   refine eG [] 19 (?_) hG rfl (by kernel_rfl) Yc (by kernel_rfl) ?_ ?_
   rotate_left
   ·intro wz hSw;(first | (go_simp;done) | (go_simp;with_reducible rfl))
   intro vw20 Yb hbn
   clear hbn Yc vw19
   try simp only [aQ]
   refine eG [] 20 (?_) hG rfl (by kernel_rfl) Yb (by kernel_rfl) ?_ ?_
   rotate_left
   ·intro wz hSw;(first | (go_simp;done) | (go_simp;with_reducible rfl))
   intro vw21 Ya hbn
   clear hbn Yb vw20
   try simp only [aQ]
   refine eG [] 21 (?_) hG rfl (by kernel_rfl) Ya (by kernel_rfl) ?_ ?_
   rotate_left
   ·intro wz hSw;(first | (go_simp;done) | (go_simp;with_reducible rfl))
   intro Pq Jr hbn
   clear hbn Ya vw21
   try simp only [aQ]
   refine iB 22 (by kernel_rfl) rfl (fun K hK=>?_)
   go_simp
   obtain ⟨bC,hbC⟩:∃ b,Pq.heap.size=b:=⟨_,rfl⟩
   have gbC:wr.heap.size≤bC:=by rw [←hbC];exact Jr.size
   rw [hbC]
   have Bp:Below wr.heap.size wr (Pq.alloc (.cells #[.int .i64 0,.int .i64 0,.int .i64 0,.int .i64 0] 23)):=Below.alloc Jr (by have:=Jr.size;omega) _
   have TC:=(show dR 23 bC #[.int .i64 0,.int .i64 0,.int .i64 0,.int .i64 0] (Pq.alloc (.cells #[.int .i64 0,.int .i64 0,.int .i64 0,.int .i64 0] 23)) by rw [←hbC];exact dR.new _ _ _)
   refine hK.out _ _ (fun _=>Bp) (fun vw23 hbn=>?_)
   have Xz:=eU _ _ Bp hbn
   have RC:=dR.below hbn TC
   clear TC
   clear hbn hK K Jr Bp
   try simp only [aQ]
   clear hbC
   refine iB 23 (by kernel_rfl) rfl (fun K hK=>?_)
   rw [aT (by kernel_rfl)]
   refine eY (fun _=>trivial) 23 (.tmp 8) (.tmp 36) (by kernel_rfl) (bC) _ _ (mC u) (by kernel_rfl) (by kernel_rfl) RC OP.out (by rw [fT,HLU.out];rfl) (iY _) ?_
   have Bo:Below wr.heap.size wr (vw23.setRow bC (mC u)):=Below.row Xz (by omega) _
   have TC:=dR.row RC (mC u)
   refine hK.out _ _ (fun _=>Bo) (fun vw24 hbn=>?_)
   have Xy:=eU _ _ Bo hbn
   replace RC:=dR.below hbn TC
   clear TC
   clear hbn hK K Xz Bo
   try simp only [aQ]
   refine eG [] 24 (?_) hG rfl (by kernel_rfl) Xy (by kernel_rfl) ?_ ?_
   rotate_left
   ·intro wz hSw;(first | (go_simp;done) | (go_simp;with_reducible rfl))
   intro vw25 Xx hbn
   replace RC:=dR.below hbn RC
   clear hbn Xy vw24
   try simp only [aQ]
   refine fF (by kernel_rfl) (?_) _
   refine DW _ _ ?_
   have RCH:=aA RC
   have I1:=aA (HI.out.up Xx)
   have gC:B < bC:=by have:=HI.out.ro.lt;omega
   clear RC DW hG HI cA hcb gbC Xx
   cases o with
   | none =>
    obtain rfl:er=30:=HER.out.symm
    have pJ:Hid (oU a b=none):=aA (DR hc HO.out)
    go_wp2_with (first | (refine gX rfl 25 #[] rfl (mC eX) (by kernel_rfl) ?_) | (refine dQ rfl 25 (.tmp 4) (.tmp 40) rfl (w.heap.size + 1 + 1) _ _ (mC eX) rfl rfl I1.out.rr iW rfl (iY _) ?_))
    (try simp only [Exit.inBlock,Exit.then])
    exact aO (v:=.tuple #[.agg (mC eX),.int .i64 30]) (fJ rfl _ _ (w.heap.size + 1 + 1) _ (mC eX) _ _ (.int .i64 30) rfl (I1.out.rr.row _) aP rfl (by kernel_rfl) rfl) rfl ⟨by rw [pJ.out];rfl,Below.row I1.out.below (by omega) _⟩
   | some x =>
    obtain rfl:x=u:=HU.out
    obtain rfl:er=0:=HER.out.symm
    have HX:Hid (∀ r,OB a b c r=x.getD r 0):=aA (fun r=>by unfold OB;rw [HO.out];rfl)
    go_wp2_with fail
    go_loopg [10] 4 (MyRel a b B c bC x w)
    case atStart=>exact ⟨0,rfl,rfl,by omega,I1.out,RCH.out⟩
    case round =>
     clear I1 RCH
     obtain ⟨r,hg,rfl,hr4,I,RC⟩:=hrel
     have HI:=aA I
     have Me:=aA RC
     clear I RC
     subst hg
     by_cases hr:r < 4
     ·have r1:(r:Int) < 4:=by omega
      obtain ⟨y,hy⟩:∃ y,OB a b c r=y:=⟨_,rfl⟩
      have GY:Hid (∀ W,XM a b B c r w W→XM a b B c (r + 1) w (W.setCell ⟨B,r * 4 + c,none⟩ (.int .i64 y))):=aA (fun W h=>by have:=h.next hc hr;rw [hy] at this;exact this)
      have hcu:Hid (∀ W,dR 23 bC (mC x) W→W.cell? ⟨bC,r,none⟩=some (.int .i64 y)):=aA (fun W h=>by rw [h.cell,kF (by rw [HLU.out];exact hr),←hy,HX.out])
      clear hy
      go_wp2_with fail
      rename_i K11 Zp
      refine (bG (n:=5)).1 (fA (S:=fun X=>Below wr.heap.size wr X) (Z:=[7]) (by kernel_rfl) (by kernel_rfl) eU (fun d _ _ _ _ h=>by cases d <;> exact h) (fG _ _ 1) (fun hG qR hw0=>?_))
      refine dO [7] 0 (?_) hG rfl (by kernel_rfl) hw0 (by kernel_rfl) ?_ ?_
      rotate_left
      ·intro wz hSw;(first | (go_simp;done) | (go_simp;with_reducible rfl))
      intro qQ hw1
      clear hw0 qR
      try simp only [aQ]
      refine dO [7] 1 (?_) hG rfl (by kernel_rfl) hw1 (by kernel_rfl) ?_ ?_
      rotate_left
      ·intro wz hSw;(first | (go_simp;done) | (go_simp;with_reducible rfl))
      intro qP hw2
      clear hw1 qQ
      try simp only [aQ]
      refine dO [7] 2 (?_) hG rfl (by kernel_rfl) hw2 (by kernel_rfl) ?_ ?_
      rotate_left
      ·intro wz hSw;(first | (go_simp;done) | (go_simp;with_reducible rfl))
      intro qO hw3
      clear hw2 qP
      try simp only [aQ]
      refine dO [7] 3 (.pointer (some ⟨bC,r,none⟩)) hG rfl (by kernel_rfl) hw3 (by kernel_rfl) ?_ ?_
      ·intro wz hSw;(first | (go_simp;done) | (go_simp;with_reducible rfl))
      intro qN hw4
      clear hw3 qO
      try simp only [aQ]
      refine dO [7] 4 (.int .i64 y) hG rfl (by kernel_rfl) hw4 (by kernel_rfl) ?_ ?_
      ·intro wz hSw;have hcc:=hcu.out wz (dR.below hSw Me.out);(first | (go_simp;done) | (go_simp;with_reducible rfl))
      intro qM lK
      clear hw4 qN
      try simp only [aQ]
      refine dO [6,7] 5 (.pointer (some ⟨B,r * 4,none⟩)) hG rfl (by kernel_rfl) lK (by kernel_rfl) ?_ ?_
      ·intro wz hSw;(first | (go_simp;done) | (go_simp;with_reducible rfl))
      intro qL kP
      clear lK qM
      try simp only [aQ]
      refine dO [7] 6 (.pointer (some ⟨B,r * 4 + c,none⟩)) hG rfl (by kernel_rfl) kP (by kernel_rfl) ?_ ?_
      ·intro wz hSw;(first | (go_simp;done) | (go_simp;with_reducible rfl))
      intro pQ hw7
      clear kP qL
      try simp only [aQ]
      have hs:=HI.out.up hw7
      have hrc:=Me.out.below hw7
      have hco:pQ.cell? ⟨B,r * 4 + c,none⟩=some (.int .i64 ((EY a b c r).getD (r * 4 + c) 0)):=by rw [hs.ro.cell,kF (by rw [Aj];omega)]
      have hfo:pQ.frozen? ⟨B,r * 4 + c,none⟩=false:=hs.ro.free
      refine iB 7 (by kernel_rfl) rfl (fun K hK=>?_)
      go_simp
      refine hK.out _ _ (fun h=>by cases h) (fun x4 hx4=>?_)
      clear hK K
      have I2:=aA ((GY.out _ hs).up hx4)
      have RC2:=aA (dR.below hx4 (hrc.iX (k:=B) (j:=r * 4 + c) (by omega) (.int .i64 y)))
      clear hs hrc hco hfo hx4
      refine fF (by kernel_rfl) (?_) _
      refine Zp _ _ ?_
      clear Zp hG HI Me GY hcu hw7 pQ
      go_wp2_with fail
      go_roundg (4 - (r + 1))
      case measure=>omega
      case rel=>exact ⟨r + 1,rfl,by go_num,by omega,I2.out,RC2.out⟩
     ·obtain rfl:r=4:=by omega
      have r1:¬ ((4:Nat):Int) < 4:=by omega
      have I2:Hid (XM a b B (c + 1) 0 w wr):=aA (by have h:=HI.out;exact ⟨h.ra,h.rb,h.rr,by have:=h.ro;rw [Al _ _ _ hc] at this;exact this,h.below,h.lt⟩)
      clear HI Me
      go_wp2_with fail
      go_roundg (4 - (c + 1))
      case measure=>omega
      case rel =>
       refine ⟨c + 1,rfl,by go_num,by omega,fun j hj=>?_,I2.out⟩
       by_cases hjc:j < c
       ·exact jY.out j hjc
       ·rw [show j=c by omega,HO.out];rfl
  ·obtain rfl:c=4:=by omega
   have c1:¬ ((4:Nat):Int) < 4:=by omega
   have WU:Hid (oU a b=some (tr (EB a b))):=aA (Jh jY.out)
   have RO:Hid (dR 25 B (mC (tr (EB a b))) wr):=aA (by have:=HI.out.ro;rw [Ak] at this;exact this)
   have RR:Hid (dR 25 (w.heap.size + 1 + 1) (mC eX) wr):=aA HI.out.rr
   have Jq:Hid ((Tryz.prog.info? 25).map (·.size)=some (mC (tr (EB a b))).size):=aA (by rw [iW,fT,tY])
   have same:Hid ((mC eX).size=(mC (tr (EB a b))).size):=aA (by rw [fT,fT,tY];rfl)
   have HE:Hid (Below w.heap.size w (wr.setRow (w.heap.size + 1 + 1) (mC (tr (EB a b))))):=aA (Below.row HI.out.below (by omega) _)
   clear HI
   generalize tr (EB a b)=Q at WU RO Jq same HE
   go_wp2_with (first | (refine wpList_load_row rfl 25 (.tmp 6) rfl (B) rfl _ _ _ _ RO.out aP rfl Jq.out ?_) | (refine dQ rfl 25 (.tmp 4) (.tmp 53) rfl (w.heap.size + 1 + 1) _ _ (mC Q) rfl rfl RR.out Jq.out same.out (iY _) ?_))
   exact aO (v:=.tuple #[.agg (mC Q),.int .i64 0]) (fJ rfl _ _ (w.heap.size + 1 + 1) _ (mC Q) _ _ (.int .i64 0) rfl (RR.out.row _) aP rfl Jq.out rfl) rfl ⟨by rw [WU.out];rfl,HE.out⟩
end Fx
end Go.Proofs.YtbbhmhihpdmoiaaGreat
