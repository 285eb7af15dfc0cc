import Derived.Test.YtbbhmhihpdmoiaaGreatJf08
set_option linter.unusedVariables false
set_option linter.unusedSimpArgs false
set_option maxRecDepth 100000
set_option maxHeartbeats 32000000
namespace Go.Proofs.YtbbhmhihpdmoiaaGreat
open Go.Proofs.Tryz
namespace Fx
open Go Go.RowKit Wm
theorem uh (b v0 v1 v2 v3:Int):wB b [v0,v1,v2,v3,0,0,0,0,0,0,0,0,0,0,0,0] 16=wB b [v0,v1,v2,v3] 4:=by
 rw[Bool.eq_iff_iff,oQ,oQ]
 constructor
 ·intro h j hj
  have:=h j (by omega);have hd:j=0∨j=1∨j=2∨j=3:=by omega
  rcases hd with rfl|rfl|rfl|rfl <;> exact this
 ·intro h j hj
  have h0:0≤b:=(h 0 (by omega)).1;by_cases h4:j<4
  ·have:=h j h4
   have hd:j=0∨j=1∨j=2∨j=3:=by omega
   rcases hd with rfl|rfl|rfl|rfl <;> exact this
  ·have e:[v0,v1,v2,v3,0,0,0,0,0,0,0,0,0,0,0,0].getD j 0=0:=by
    have hd:j=4∨j=5∨j=6∨j=7∨j=8∨j=9∨j=10∨j=11∨j=12∨j=13∨j=14∨j=15:=by omega
    rcases hd with rfl|rfl|rfl|rfl|rfl|rfl|rfl|rfl|rfl|rfl|rfl|rfl <;> rfl
   rw[e];omega
theorem ap_bad {m v:List Int}{j:Nat}(hj:j<4)(h:okB 4611686018427387904 (pq (rowOf m j) v)=false):uK m v=none:=by
 unfold uK;rw[bF];rintro ⟨_,_,h3⟩;have h4:=oQ.1 h3 j hj;have e:(kZ m v).getD j 0=pq (rowOf m j) v:=by
  have hd:j=0∨j=1∨j=2∨j=3:=by omega
  rcases hd with rfl|rfl|rfl|rfl <;> rfl
 rw[e] at h4;unfold okB at h;have:=of_decide_eq_false h;exact this h4
theorem Xq {m v:List Int}(h1:wB 4611686018427387904 m 16=true)(h2:wB 4611686018427387904 v 4=true)(h:∀j,j<4→okB 4611686018427387904 (pq (rowOf m j) v)=true):uK m v=some (kZ m v):=by
 unfold uK;rw[aZ];refine ⟨h1,h2,oQ.2 fun j hj=>?_⟩;have h4:=h j hj;have e:(kZ m v).getD j 0=pq (rowOf m j) v:=by
  have hd:j=0∨j=1∨j=2∨j=3:=by omega
  rcases hd with rfl|rfl|rfl|rfl <;> rfl
 rw[e];unfold okB at h4;exact of_decide_eq_true h4
theorem ap_no1 {m v:List Int}(h:wB 4611686018427387904 m 16=false):uK m v=none:=by
 unfold uK;rw[bF];rintro ⟨h1,_⟩;rw[h] at h1
 cases h1
theorem ap_no2 {m v:List Int}(h:wB 4611686018427387904 v 4=false):uK m v=none:=by
 unfold uK;rw[bF];rintro ⟨_,h1,_⟩;rw[h] at h1
 cases h1
def ZpRel (m:List Int)(v0 v1 v2 v3:Int)(B:Nat)(w:World)(g:Nat)(s:Value)(W:World):Prop :=
 ∃r,g=4-r∧s=.int .i64 (r:Int)∧r≤4∧(∀j,j<r→okB 4611686018427387904 (pq (rowOf m j) [v0,v1,v2,v3])=true)∧AI m v0 v1 v2 v3 r B w W
theorem dI.WE {t:TypeId}{g:Nat}{x0 x1 x2 x3:Value}{W:World}(h:dI t g #[x0,x1,x2,x3] W)(y0 y1 y2 y3:Value):dI t g #[y0,y1,y2,y3] ((((W.setCell ⟨g,0,none⟩ y0).setCell ⟨g,1,none⟩ y1).setCell ⟨g,2,none⟩ y2).setCell ⟨g,3,none⟩ y3):=by
 have h1:=aM W _ 0 _ _ y0 h;have h2:=aM _ _ 1 _ _ y1 h1;have h3:=aM _ _ 2 _ _ y2 h2;exact aM _ _ 3 _ _ y3 h3
theorem Below.WE {w W:World}{g:Nat}(h:Below w.heap.size w W)(hg:w.heap.size≤g)(y0 y1 y2 y3:Value):Below w.heap.size w ((((W.setCell ⟨g,0,none⟩ y0).setCell ⟨g,1,none⟩ y1).setCell ⟨g,2,none⟩ y2).setCell ⟨g,3,none⟩ y3) :=
 (((h.setCell (p:=⟨g,0,none⟩) hg _).setCell (p:=⟨g,1,none⟩) hg _).setCell (p:=⟨g,2,none⟩) hg _).setCell (p:=⟨g,3,none⟩) hg _
theorem YY:(prog.info? 23).map (·.size)=some 4:=by kernel_rfl
theorem Gq {m:List Int}(h:∀j,-9223372036854775808≤m.getD j 0∧m.getD j 0≤9223372036854775807)(r:Nat):∀j,-9223372036854775808≤(rowOf m r).getD j 0∧(rowOf m r).getD j 0≤9223372036854775807:=by
 intro j;unfold rowOf
 match j with
 | 0=>exact h _
 | 1=>exact h _
 | 2=>exact h _
 | 3=>exact h _
 | j+4=>simp
theorem Tt (m:List Int)(v0 v1 v2 v3:Int)(w:World)(hm:m.length=16)(bm:∀j,-9223372036854775808≤m.getD j 0∧m.getD j 0≤9223372036854775807)(Xo:∀j,-9223372036854775808≤[v0,v1,v2,v3].getD j 0∧[v0,v1,v2,v3].getD j 0≤9223372036854775807) :
  Calls prog 148 #[.agg (mC m),.agg #[.int .i64 v0,.int .i64 v1,.int .i64 v2,.int .i64 v3]] w (YF (uK m [v0,v1,v2,v3]) w):=by
 have HM:=aA hm;have lW:(prog.info? 25).map (·.size)=some (mC m).size:=by rw[iT,eV,hm]
 have Rn:=aA lW;have h3:=kF w (.cells (mC m) 25) (.cells #[.int .i64 v0,.int .i64 v1,.int .i64 v2,.int .i64 v3] 23) (.cells #[.int .i64 0,.int .i64 0,.int .i64 0,.int .i64 0] 23);have RM0:Hid (dI 25 w.heap.size (mC m) (((w.alloc (.cells (mC m) 25)).alloc (.cells #[.int .i64 v0,.int .i64 v1,.int .i64 v2,.int .i64 v3] 23)).alloc (.cells #[.int .i64 0,.int .i64 0,.int .i64 0,.int .i64 0] 23))):=aA h3.1;have RV0:Hid (dI 23 (w.heap.size+1) #[.int .i64 v0,.int .i64 v1,.int .i64 v2,.int .i64 v3] (((w.alloc (.cells (mC m) 25)).alloc (.cells #[.int .i64 v0,.int .i64 v1,.int .i64 v2,.int .i64 v3] 23)).alloc (.cells #[.int .i64 0,.int .i64 0,.int .i64 0,.int .i64 0] 23))):=aA h3.2.1;have RR0:Hid (dI 23 (w.heap.size+1+1) #[.int .i64 0,.int .i64 0,.int .i64 0,.int .i64 0] (((w.alloc (.cells (mC m) 25)).alloc (.cells #[.int .i64 v0,.int .i64 v1,.int .i64 v2,.int .i64 v3] 23)).alloc (.cells #[.int .i64 0,.int .i64 0,.int .i64 0,.int .i64 0] 23))):=aA h3.2.2;have CH:Hid (Below w.heap.size w (((w.alloc (.cells (mC m) 25)).alloc (.cells #[.int .i64 v0,.int .i64 v1,.int .i64 v2,.int .i64 v3] 23)).alloc (.cells #[.int .i64 0,.int .i64 0,.int .i64 0,.int .i64 0] 23))):=aA (by go_grown);have CW1:Hid (vH 104 #[.agg (mC m),.int .i64 4611686018427387904] (.bool (wB 4611686018427387904 m 16))):=aA fun w=>nE m 4611686018427387904 w hm (by omega) (by omega)
 have CW2:Hid (vH 104 #[.agg (mC [v0,v1,v2,v3,0,0,0,0,0,0,0,0,0,0,0,0]),.int .i64 4611686018427387904] (.bool (wB 4611686018427387904 [v0,v1,v2,v3] 4))):=aA fun w=>by rw[←uh];exact nE [v0,v1,v2,v3,0,0,0,0,0,0,0,0,0,0,0,0] 4611686018427387904 w rfl (by omega) (by omega)
 obtain ⟨b1,h1⟩:∃b,wB 4611686018427387904 m 16=b:=⟨_,rfl⟩;obtain ⟨b2,h2⟩:∃b,wB 4611686018427387904 [v0,v1,v2,v3] 4=b:=⟨_,rfl⟩;rw[h1] at CW1;rw[h2] at CW2;have H1:=aA h1;have H2:=aA h2;have BM:=aA bm;have BV:=aA Xo;clear hm lW h3 h1 h2 bm Xo;go_enter func148,ntmps148;go_wp2_with (refine wpList_load_row rfl 25 (.tmp 2) rfl (w.heap.size) rfl _ _ _ _ RM0.out aU rfl Rn.out ?_)
 generalize (((w.alloc (.cells (mC m) 25)).alloc (.cells #[.int .i64 v0,.int .i64 v1,.int .i64 v2,.int .i64 v3] 23)).alloc (.cells #[.int .i64 0,.int .i64 0,.int .i64 0,.int .i64 0] 23))=V at RM0 RV0 RR0 CH ⊢;refine (CW1.out _).mono ?_;rintro e w1 ⟨rfl,hb1⟩;have RM1:Hid (dI 25 w.heap.size (mC m) w1):=aA (RM0.out.below hb1);have RV1:Hid (dI 23 (w.heap.size+1) #[.int .i64 v0,.int .i64 v1,.int .i64 v2,.int .i64 v3] w1):=aA (RV0.out.below hb1);have RR1:Hid (dI 23 (w.heap.size+1+1) #[.int .i64 0,.int .i64 0,.int .i64 0,.int .i64 0] w1):=aA (RR0.out.below hb1);have jK:Hid (Below w.heap.size w w1):=aA (dN CH.out hb1);clear RM0 RV0 RR0 CH hb1;go_wp2_with (first|(refine wpList_load_row rfl 23 (.tmp 3) rfl (w.heap.size+1) rfl _ _ _ _ RV1.out cP rfl (by kernel_rfl) ?_)|(refine gI rfl 25 #[(0,.tmp 14)] rfl (mC [v0,v1,v2,v3,0,0,0,0,0,0,0,0,0,0,0,0]) (by kernel_rfl) ?_))
 refine (CW2.out _).mono ?_;rintro e w2 ⟨rfl,hb2⟩;have RM2:Hid (dI 25 w.heap.size (mC m) w2):=aA (RM1.out.below hb2);have RV2:Hid (dI 23 (w.heap.size+1) #[.int .i64 v0,.int .i64 v1,.int .i64 v2,.int .i64 v3] w2):=aA (RV1.out.below hb2);have IU:Hid (dI 23 (w.heap.size+1+1) #[.int .i64 0,.int .i64 0,.int .i64 0,.int .i64 0] w2):=aA (RR1.out.below hb2);have mI:Hid (Below w.heap.size w w2):=aA (dN jK.out hb2);have hz2:w.heap.size+1+1<w2.heap.size:=IU.out.lt;clear RM1 RV1 RR1 jK hb2 CW1 CW2
 cases b1 with
 | false =>
  have sQ:Hid (uK m [v0,v1,v2,v3]=none):=aA (ap_no1 H1.out);have z0:=dI.cell (j:=0) IU.out;have z1:=dI.cell (j:=1) IU.out;have z2:=dI.cell (j:=2) IU.out;have z3:=dI.cell (j:=3) IU.out;have y0:=dI.free (j:=0) IU.out;have y1:=dI.free (j:=1) IU.out;have y2:=dI.free (j:=2) IU.out;have y3:=dI.free (j:=3) IU.out;simp only[List.getElem?_toArray,List.getElem?_cons_zero,List.getElem?_cons_succ] at z0 z1 z2 z3;go_wp2_with fail
  (try simp only[Exit.inBlock,Exit.then])
  exact aO (v:=.tuple #[.agg #[.int .i64 0,.int .i64 0,.int .i64 0,.int .i64 0],.int .i64 30]) (eY rfl _ _ (w.heap.size+1+1) _ #[.int .i64 0,.int .i64 0,.int .i64 0,.int .i64 0] _ _ (.int .i64 30) rfl (IU.out.WE _ _ _ _) cP rfl (by kernel_rfl) rfl) rfl ⟨by rw[sQ.out];rfl,Below.WE mI.out (by omega) _ _ _ _⟩
 | true =>
  cases b2 with
  | false =>
   have sQ:Hid (uK m [v0,v1,v2,v3]=none):=aA (ap_no2 H2.out);have z0:=dI.cell (j:=0) IU.out;have z1:=dI.cell (j:=1) IU.out;have z2:=dI.cell (j:=2) IU.out;have z3:=dI.cell (j:=3) IU.out;have y0:=dI.free (j:=0) IU.out;have y1:=dI.free (j:=1) IU.out;have y2:=dI.free (j:=2) IU.out;have y3:=dI.free (j:=3) IU.out;simp only[List.getElem?_toArray,List.getElem?_cons_zero,List.getElem?_cons_succ] at z0 z1 z2 z3;go_wp2_with fail
   (try simp only[Exit.inBlock,Exit.then])
   exact aO (v:=.tuple #[.agg #[.int .i64 0,.int .i64 0,.int .i64 0,.int .i64 0],.int .i64 30]) (eY rfl _ _ (w.heap.size+1+1) _ #[.int .i64 0,.int .i64 0,.int .i64 0,.int .i64 0] _ _ (.int .i64 30) rfl (IU.out.WE _ _ _ _) cP rfl (by kernel_rfl) rfl) rfl ⟨by rw[sQ.out];rfl,Below.WE mI.out (by omega) _ _ _ _⟩
  | true =>
   have hz2':w.heap.size+1+1<(w2.alloc (.cells #[.int .i64 0,.int .i64 0,.int .i64 0,.int .i64 0] 23)).heap.size:=by simp;omega
   have tu:Hid (AI m v0 v1 v2 v3 0 w2.heap.size w (w2.alloc (.cells #[.int .i64 0,.int .i64 0,.int .i64 0,.int .i64 0] 23))):=aA ⟨RM2.out.alloc _,RV2.out.alloc _,IU.out.alloc _,aG _ _,hz2,mI.out.alloc mI.out.size _⟩;go_wp2_with fail;generalize (w2.alloc (.cells #[.int .i64 0,.int .i64 0,.int .i64 0,.int .i64 0] 23))=V2 at tu ⊢;generalize w2.heap.size=B at tu ⊢;clear RM2 RV2 IU mI hz2 hz2';go_loopg[9] 4 (ZpRel m v0 v1 v2 v3 B w)
   case atStart=>exact ⟨0,rfl,rfl,by omega,fun j hj=>absurd hj (by omega),tu.out⟩
   case round =>
    clear tu;obtain ⟨r,hg,rfl,hr4,jS,I⟩:=hrel;have HI:=aA I;have kC:=aA jS;clear I jS;subst hg;by_cases hr:r<4
    ·have r1:(r:Int)<4:=by omega
     obtain ⟨q,hq⟩:∃q,pq (rowOf m r) [v0,v1,v2,v3]=q:=⟨_,rfl⟩;have PD:Hid (∀W,AI m v0 v1 v2 v3 r B w W→AI m v0 v1 v2 v3 (r+1) B w (W.setCell ⟨B,r,none⟩ (.int .i64 q))):=aA (fun W h=>by have:=h.next hr;rw[hq] at this;exact this);have cS:Hid (vH 154 #[.agg #[.int .i64 (m.getD (r*4) 0),.int .i64 (m.getD (r*4+1) 0),.int .i64 (m.getD (r*4+2) 0),.int .i64 (m.getD (r*4+3) 0)],.agg #[.int .i64 v0,.int .i64 v1,.int .i64 v2,.int .i64 v3]] (.tuple #[.int .i64 (AQ q),.bool (okB 4611686018427387904 q)])):=aA fun w=>by
      have:=Ir (rowOf m r) [v0,v1,v2,v3] w rfl rfl (Gq BM.out r) BV.out;rw[hq] at this;exact this
     have hc0:Hid (∀W,dI 25 w.heap.size (mC m) W→W.cell? ⟨w.heap.size,r*4,none⟩=some (.int .i64 (m.getD (r*4) 0))∧W.cell? ⟨w.heap.size,r*4+1,none⟩=some (.int .i64 (m.getD (r*4+1) 0))∧W.cell? ⟨w.heap.size,r*4+2,none⟩=some (.int .i64 (m.getD (r*4+2) 0))∧W.cell? ⟨w.heap.size,r*4+3,none⟩=some (.int .i64 (m.getD (r*4+3) 0))):=aA (fun W h=>⟨by rw[h.cell,kR (by rw[HM.out];omega)],by rw[h.cell,kR (by rw[HM.out];omega)],by rw[h.cell,kR (by rw[HM.out];omega)],by rw[h.cell,kR (by rw[HM.out];omega)]⟩);have HQ:=aA hq;generalize m.getD (r*4) 0=a0 at cS hc0;generalize m.getD (r*4+1) 0=a1 at cS hc0;generalize m.getD (r*4+2) 0=a2 at cS hc0;generalize m.getD (r*4+3) 0=a3 at cS hc0;obtain ⟨bq,Wp⟩:∃b,okB 4611686018427387904 q=b:=⟨_,rfl⟩;obtain ⟨n,hn⟩:∃n,AQ q=n:=⟨_,rfl⟩;rw[Wp,hn] at cS;have HBQ:=aA Wp;have hnq:bq=true→n=q:=fun h=>by rw[←hn];unfold AQ;rw[Wp,h];rfl
     have HNQ:=aA hnq;clear hq Wp hn hnq;go_wp2_with fail;rename_i K9 hK9;refine (bN (n:=5)).1 (eA (S:=fun X=>Below wr.heap.size wr X) (Z:=[]) (by kernel_rfl) (by kernel_rfl) dU (fun d _ _ _ _ h=>by cases d <;> exact h) (eM _ _ 1) (fun hG rA hw0=>?_));refine dT [] 0 (?_) hG rfl (by kernel_rfl) hw0 (by kernel_rfl) ?_ ?_;rotate_left
     ·intro wz hSw;first|(go_simp;done)|(go_simp;with_reducible rfl)
     intro qZ kS eL;clear eL hw0 rA;try simp only[aQ]
     refine dT [] 1 (.pointer (some ⟨w.heap.size,r*4,none⟩)) hG rfl (by kernel_rfl) kS (by kernel_rfl) ?_ ?_
     ·intro wz hSw;first|(go_simp;done)|(go_simp;with_reducible rfl)
     intro qY hw2 eL;clear eL kS qZ;try simp only[aQ]
     refine dT [] 2 (.agg #[.int .i64 a0,.int .i64 a1,.int .i64 a2,.int .i64 a3]) hG rfl (by kernel_rfl) hw2 (by kernel_rfl) ?_ ?_
     ·intro wz hSw;obtain ⟨c0,c1,c2,c3⟩:=hc0.out wz (dI.below hSw HI.out.bm);(first|(go_simp;done)|(go_simp;with_reducible rfl))
     intro qX hw3 eL;clear eL hw2 qY;try simp only[aQ]
     refine dT [] 3 (.agg #[.int .i64 v0,.int .i64 v1,.int .i64 v2,.int .i64 v3]) hG rfl (by kernel_rfl) hw3 (by kernel_rfl) ?_ ?_
     ·intro wz hSw;exact dY 23 (.tmp 3) (by kernel_rfl) (w.heap.size+1) (by kernel_rfl) _ _ _ _ (dI.below hSw HI.out.bv) cP (by kernel_rfl) (by kernel_rfl)
     intro qW hw4 eL;clear eL hw3 qX;try simp only[aQ]
     refine lC [] 4 154 #[.agg #[.int .i64 a0,.int .i64 a1,.int .i64 a2,.int .i64 a3],.agg #[.int .i64 v0,.int .i64 v1,.int .i64 v2,.int .i64 v3]] (.tuple #[.int .i64 n,.bool bq]) hG rfl (by kernel_rfl) hw4 (by kernel_rfl) ?_ (cS.out) ?_
     ·intro wz;(first|(go_simp;done)|(go_simp;with_reducible rfl))
     intro qV lB eL;clear eL hw4 qW;try simp only[aQ]
     refine dT [] 5 (?_) hG rfl (by kernel_rfl) lB (by kernel_rfl) ?_ ?_;rotate_left
     ·intro wz hSw;first|(go_simp;done)|(go_simp;with_reducible rfl)
     intro qU kA eL;clear eL lB qV;try simp only[aQ]
     refine dT [] 6 (?_) hG rfl (by kernel_rfl) kA (by kernel_rfl) ?_ ?_;rotate_left
     ·intro wz hSw;first|(go_simp;done)|(go_simp;with_reducible rfl)
     intro qC kP eL;clear eL kA qU;try simp only[aQ]
     refine dT [] 7 (?_) hG rfl (by kernel_rfl) kP (by kernel_rfl) ?_ ?_;rotate_left
     ·intro wz hSw;first|(go_simp;done)|(go_simp;with_reducible rfl)
     intro sF kH eL;clear eL kP qC;try simp only[aQ]
     refine dT [] 8 (?_) hG rfl (by kernel_rfl) kH (by kernel_rfl) ?_ ?_;rotate_left
     ·intro wz hSw;first|(go_simp;done)|(go_simp;with_reducible rfl)
     intro sD lI eL;clear eL kH sF;try simp only[aQ]
     refine dT [] 9 (?_) hG rfl (by kernel_rfl) lI (by kernel_rfl) ?_ ?_;rotate_left
     ·intro wz hSw;first|(go_simp;done)|(go_simp;with_reducible rfl)
     intro jG gH eL;clear eL lI sD;try simp only[aQ]
     refine eK (by kernel_rfl) (?_) _;refine hK9 _ _ ?_;have I1:=aA (HI.out.up gH);clear hK9 hG HI cS hc0 gH
     cases bq with
     | false =>
      have sQ:Hid (uK m [v0,v1,v2,v3]=none):=aA (ap_bad hr (by rw[HQ.out];exact HBQ.out));have z0:=dI.cell (j:=0) (show dI 23 (w.heap.size+1+1) #[.int .i64 0,.int .i64 0,.int .i64 0,.int .i64 0] _ from I1.out.br);have z1:=dI.cell (j:=1) (show dI 23 (w.heap.size+1+1) #[.int .i64 0,.int .i64 0,.int .i64 0,.int .i64 0] _ from I1.out.br);have z2:=dI.cell (j:=2) (show dI 23 (w.heap.size+1+1) #[.int .i64 0,.int .i64 0,.int .i64 0,.int .i64 0] _ from I1.out.br);have z3:=dI.cell (j:=3) (show dI 23 (w.heap.size+1+1) #[.int .i64 0,.int .i64 0,.int .i64 0,.int .i64 0] _ from I1.out.br);have y0:=dI.free (j:=0) (show dI 23 (w.heap.size+1+1) #[.int .i64 0,.int .i64 0,.int .i64 0,.int .i64 0] _ from I1.out.br);have y1:=dI.free (j:=1) (show dI 23 (w.heap.size+1+1) #[.int .i64 0,.int .i64 0,.int .i64 0,.int .i64 0] _ from I1.out.br);have y2:=dI.free (j:=2) (show dI 23 (w.heap.size+1+1) #[.int .i64 0,.int .i64 0,.int .i64 0,.int .i64 0] _ from I1.out.br);have y3:=dI.free (j:=3) (show dI 23 (w.heap.size+1+1) #[.int .i64 0,.int .i64 0,.int .i64 0,.int .i64 0] _ from I1.out.br);simp only[List.getElem?_toArray,List.getElem?_cons_zero,List.getElem?_cons_succ] at z0 z1 z2 z3;go_wp2_with fail
      (try simp only[Exit.inBlock,Exit.then])
      exact aO (v:=.tuple #[.agg #[.int .i64 0,.int .i64 0,.int .i64 0,.int .i64 0],.int .i64 30]) (eY rfl _ _ (w.heap.size+1+1) _ #[.int .i64 0,.int .i64 0,.int .i64 0,.int .i64 0] _ _ (.int .i64 30) rfl (dI.WE (show dI 23 (w.heap.size+1+1) #[.int .i64 0,.int .i64 0,.int .i64 0,.int .i64 0] _ from I1.out.br) _ _ _ _) cP rfl (by kernel_rfl) rfl) rfl ⟨by rw[sQ.out];rfl,Below.WE I1.out.below (by omega) _ _ _ _⟩
     | true =>
      obtain rfl:=HNQ.out rfl;have cb:jG.cell? ⟨B,r,none⟩=some (.int .i64 ((ko m [v0,v1,v2,v3] r).getD r 0)):=by rw[aD _ _ _ _ _ _ I1.out.ba,zE _ _ (by rw[Cb];exact hr)]
      have fb:jG.frozen? ⟨B,r,none⟩=false:=dJ I1.out.ba;have I2:=aA (PD.out _ I1.out);clear I1 PD;go_wp2_with fail;go_roundg (4-(r+1))
      case measure=>omega
      case rel =>
       refine ⟨r+1,rfl,by go_num,by omega,fun j hj=>?_,I2.out⟩;by_cases hjr:j<r
       ·exact kC.out j hjr
       ·rw[show j=r by omega,HQ.out];exact HBQ.out
    ·obtain rfl:r=4:=by omega
     have r1:¬ ((4:Nat):Int)<4:=by omega
     have Hh:Hid (uK m [v0,v1,v2,v3]=some (kZ m [v0,v1,v2,v3])):=aA (Xq H1.out H2.out kC.out);have RB:Hid (dI 23 B (mC (kZ m [v0,v1,v2,v3])) wr):=aA (by have:=HI.out.ba;rw[Cc] at this;exact this);have RR:Hid (dI 23 (w.heap.size+1+1) #[.int .i64 0,.int .i64 0,.int .i64 0,.int .i64 0] wr):=aA HI.out.br;have HE:Hid (Below w.heap.size w (wr.setRow (w.heap.size+1+1) (mC (kZ m [v0,v1,v2,v3])))):=aA (Below.row HI.out.below (by omega) _);clear HI;go_wp2_with (first|(refine wpList_load_row rfl 23 (.tmp 8) rfl (B) rfl _ _ _ _ RB.out cP rfl (by kernel_rfl) ?_)|(refine dG rfl 23 (.tmp 4) (.tmp 43) rfl (w.heap.size+1+1) _ _ (mC (kZ m [v0,v1,v2,v3])) rfl rfl RR.out (by kernel_rfl) rfl (iV _) ?_))
     exact aO (v:=.tuple #[.agg (mC (kZ m [v0,v1,v2,v3])),.int .i64 0]) (eY rfl _ _ (w.heap.size+1+1) _ (mC (kZ m [v0,v1,v2,v3])) _ _ (.int .i64 0) rfl (RR.out.row _) cP rfl (by kernel_rfl) rfl) rfl ⟨by rw[Hh.out];rfl,HE.out⟩
theorem VF (m v:List Int)(w:World)(hm:m.length=16)(hv:v.length=4)(bm:∀j,-9223372036854775808≤m.getD j 0∧m.getD j 0≤9223372036854775807)(Xo:∀j,-9223372036854775808≤v.getD j 0∧v.getD j 0≤9223372036854775807) :
  Calls prog 148 #[.agg (mC m),.agg (mC v)] w (YF (uK m v) w):=by
 have e:=Lv hv;rw[e] at Xo ⊢;exact Tt m _ _ _ _ w hm bm Xo
def XT (a b:List Int)(c r:Nat):Int:=((qJ a b c).getD []).getD r 0
def MK (a b:List Int)(c r:Nat):List Int:=(List.range 16).map fun p=>if p%4<c∨(p%4=c∧p/4<r) then XT a b (p%4) (p/4) else 0
theorem La (a b:List Int)(c r:Nat):(MK a b c r).length=16:=by simp[MK]
theorem Lc (a b:List Int)(c:Nat)(hc:c<4):MK a b c 4=MK a b (c+1) 0:=by
 have hd:c=0∨c=1∨c=2∨c=3:=by omega
 rcases hd with rfl|rfl|rfl|rfl <;> rfl
theorem Lb (a b:List Int):MK a b 4 0=tr (KT a b):=rfl
theorem Ev (a b:List Int)(c r:Nat)(hc:c<4)(hr:r<4):(MK a b c r).set (r*4+c) (XT a b c r)=MK a b c (r+1):=by
 have hd:c=0∨c=1∨c=2∨c=3:=by omega
 have he:r=0∨r=1∨r=2∨r=3:=by omega
 rcases hd with rfl|rfl|rfl|rfl <;> rcases he with rfl|rfl|rfl|rfl <;> rfl
theorem NV (b:List Int)(c:Nat)(hc:c<4):rowOf (tr b) c=[b.getD c 0,b.getD (4+c) 0,b.getD (8+c) 0,b.getD (12+c) 0]:=by
 have hd:c=0∨c=1∨c=2∨c=3:=by omega
 rcases hd with rfl|rfl|rfl|rfl <;> rfl
structure Ij (a b:List Int)(B c r:Nat)(w W:World):Prop where
 ra:dI 25 w.heap.size (mC a) W
 rb:dI 25 (w.heap.size+1) (mC b) W
 rr:dI 25 (w.heap.size+1+1) (mC dZ) W
 ro:dI 25 B (mC (MK a b c r)) W
 below:Below w.heap.size w W
 lt:w.heap.size+1+1<B
theorem Ij.up {a b:List Int}{B c r:Nat}{w W V:World}(i:Ij a b B c r w W)(hb:Below W.heap.size W V):Ij a b B c r w V:=⟨i.ra.below hb,i.rb.below hb,i.rr.below hb,i.ro.below hb,dN i.below hb,i.lt⟩
theorem dI.iU {t:TypeId}{g k j:Nat}{cs:Array Value}{W:World}(h:dI t g cs W)(hk:g≠k)(v:Value):dI t g cs (W.setCell ⟨k,j,none⟩ v):=by unfold dI;rw[aK _ _ _ _ (by show g≠k;exact hk)];exact h
theorem Ij.next {a b:List Int}{B c r:Nat}{w W:World}(i:Ij a b B c r w W)(hc:c<4)(hr:r<4):Ij a b B c (r+1) w (W.setCell ⟨B,r*4+c,none⟩ (.int .i64 (XT a b c r))):=by
 have hB:=i.lt;refine ⟨i.ra.iU (by omega) _,i.rb.iU (by omega) _,i.rr.iU (by omega) _,?_,i.below.setCell (p:=⟨B,r*4+c,none⟩) (by show _≤B;omega) _,hB⟩;have:=aM _ _ (r*4+c) _ _ (.int .i64 (XT a b c r)) i.ro;unfold dI;rw[this,MP,Ev _ _ _ _ hc hr]
def MzRel (a b:List Int)(B:Nat)(w:World)(g:Nat)(s:Value)(W:World):Prop :=
 ∃c,g=4-c∧s=.int .i64 (c:Int)∧c≤4∧(∀j,j<c→(qJ a b j).isSome=true)∧Ij a b B c 0 w W
def MyRel (a b:List Int)(B c bC:Nat)(u:List Int)(w:World)(g:Nat)(s:Value)(W:World):Prop :=
 ∃r,g=4-r∧s=.int .i64 (r:Int)∧r≤4∧Ij a b B c r w W∧dI 23 bC (mC u) W
theorem Pw {a b:List Int}{c:Nat}{u:List Int}(h:qJ a b c=some u):u.length=4:=by
 unfold qJ uK at h
 split at h
 ·cases h;rfl
 ·cases h
theorem Vi {a b:List Int}(h:∀j,j<4→(qJ a b j).isSome=true):rE a b=some (tr (KT a b)):=by
 unfold rE;rw[aZ ⟨h 0 (by omega),h 1 (by omega),h 2 (by omega),h 3 (by omega)⟩]
theorem Dc (a b:List Int)(w:World)(la:a.length=16)(lb:b.length=16)(ba:∀j,-9223372036854775808≤a.getD j 0∧a.getD j 0≤9223372036854775807)(bb:∀j,-9223372036854775808≤b.getD j 0∧b.getD j 0≤9223372036854775807) :
  Calls prog 133 #[.agg (mC a),.agg (mC b)] w (Ci (rE a b) w):=by
 have LA:=aA la;have LB:=aA lb;have BA:=aA ba;have BBd:=aA bb;have lW:(prog.info? 25).map (·.size)=some (mC a).size:=by rw[iT,eV,la]
 have Rn:=aA lW;have h3:=kF w (.cells (mC a) 25) (.cells (mC b) 25) (.cells #[.int .i64 0,.int .i64 0,.int .i64 0,.int .i64 0,.int .i64 0,.int .i64 0,.int .i64 0,.int .i64 0,.int .i64 0,.int .i64 0,.int .i64 0,.int .i64 0,.int .i64 0,.int .i64 0,.int .i64 0,.int .i64 0] 25);have RA0:Hid (dI 25 w.heap.size (mC a) (((w.alloc (.cells (mC a) 25)).alloc (.cells (mC b) 25)).alloc (.cells #[.int .i64 0,.int .i64 0,.int .i64 0,.int .i64 0,.int .i64 0,.int .i64 0,.int .i64 0,.int .i64 0,.int .i64 0,.int .i64 0,.int .i64 0,.int .i64 0,.int .i64 0,.int .i64 0,.int .i64 0,.int .i64 0] 25))):=aA h3.1;have RB0:Hid (dI 25 (w.heap.size+1) (mC b) (((w.alloc (.cells (mC a) 25)).alloc (.cells (mC b) 25)).alloc (.cells #[.int .i64 0,.int .i64 0,.int .i64 0,.int .i64 0,.int .i64 0,.int .i64 0,.int .i64 0,.int .i64 0,.int .i64 0,.int .i64 0,.int .i64 0,.int .i64 0,.int .i64 0,.int .i64 0,.int .i64 0,.int .i64 0] 25))):=aA h3.2.1;have RR0:Hid (dI 25 (w.heap.size+1+1) (mC dZ) (((w.alloc (.cells (mC a) 25)).alloc (.cells (mC b) 25)).alloc (.cells #[.int .i64 0,.int .i64 0,.int .i64 0,.int .i64 0,.int .i64 0,.int .i64 0,.int .i64 0,.int .i64 0,.int .i64 0,.int .i64 0,.int .i64 0,.int .i64 0,.int .i64 0,.int .i64 0,.int .i64 0,.int .i64 0] 25))):=aA h3.2.2;have CH:Hid (Below w.heap.size w (((w.alloc (.cells (mC a) 25)).alloc (.cells (mC b) 25)).alloc (.cells #[.int .i64 0,.int .i64 0,.int .i64 0,.int .i64 0,.int .i64 0,.int .i64 0,.int .i64 0,.int .i64 0,.int .i64 0,.int .i64 0,.int .i64 0,.int .i64 0,.int .i64 0,.int .i64 0,.int .i64 0,.int .i64 0] 25))):=aA (by go_grown);clear la lb ba bb lW h3;have hsz:((((w.alloc (.cells (mC a) 25)).alloc (.cells (mC b) 25)).alloc (.cells #[.int .i64 0,.int .i64 0,.int .i64 0,.int .i64 0,.int .i64 0,.int .i64 0,.int .i64 0,.int .i64 0,.int .i64 0,.int .i64 0,.int .i64 0,.int .i64 0,.int .i64 0,.int .i64 0,.int .i64 0,.int .i64 0] 25))).heap.size=w.heap.size+1+1+1:=by simp
 have RN:Hid (dI 25 (w.heap.size+1+1+1) (mC dZ) ((((w.alloc (.cells (mC a) 25)).alloc (.cells (mC b) 25)).alloc (.cells #[.int .i64 0,.int .i64 0,.int .i64 0,.int .i64 0,.int .i64 0,.int .i64 0,.int .i64 0,.int .i64 0,.int .i64 0,.int .i64 0,.int .i64 0,.int .i64 0,.int .i64 0,.int .i64 0,.int .i64 0,.int .i64 0] 25)).alloc (.cells #[.int .i64 0,.int .i64 0,.int .i64 0,.int .i64 0,.int .i64 0,.int .i64 0,.int .i64 0,.int .i64 0,.int .i64 0,.int .i64 0,.int .i64 0,.int .i64 0,.int .i64 0,.int .i64 0,.int .i64 0,.int .i64 0] 25))):=aA (by rw[←hsz];exact aG _ _);have I0:Hid (Ij a b (w.heap.size+1+1+1) 0 0 w (((((w.alloc (.cells (mC a) 25)).alloc (.cells (mC b) 25)).alloc (.cells #[.int .i64 0,.int .i64 0,.int .i64 0,.int .i64 0,.int .i64 0,.int .i64 0,.int .i64 0,.int .i64 0,.int .i64 0,.int .i64 0,.int .i64 0,.int .i64 0,.int .i64 0,.int .i64 0,.int .i64 0,.int .i64 0] 25)).alloc (.cells #[.int .i64 0,.int .i64 0,.int .i64 0,.int .i64 0,.int .i64 0,.int .i64 0,.int .i64 0,.int .i64 0,.int .i64 0,.int .i64 0,.int .i64 0,.int .i64 0,.int .i64 0,.int .i64 0,.int .i64 0,.int .i64 0] 25)).setRow (w.heap.size+1+1+1) (mC dZ))):=aA ⟨(RA0.out.alloc _).other (by omega) _,(RB0.out.alloc _).other (by omega) _,(RR0.out.alloc _).other (by omega) _,RN.out.row _,Below.row (CH.out.alloc CH.out.size _) (by omega) _,by omega⟩;clear RA0 RB0 RR0 CH hsz;go_enter func133,ntmps133;go_wp2_with (first|(refine gI rfl 25 #[] rfl (mC dZ) (by kernel_rfl) ?_)|(refine dG rfl 25 (.tmp 6) (.tmp 11) rfl (w.heap.size+1+1+1) _ _ (mC dZ) rfl rfl RN.out iT rfl (iV _) ?_))
 generalize (((((w.alloc (.cells (mC a) 25)).alloc (.cells (mC b) 25)).alloc (.cells #[.int .i64 0,.int .i64 0,.int .i64 0,.int .i64 0,.int .i64 0,.int .i64 0,.int .i64 0,.int .i64 0,.int .i64 0,.int .i64 0,.int .i64 0,.int .i64 0,.int .i64 0,.int .i64 0,.int .i64 0,.int .i64 0] 25)).alloc (.cells #[.int .i64 0,.int .i64 0,.int .i64 0,.int .i64 0,.int .i64 0,.int .i64 0,.int .i64 0,.int .i64 0,.int .i64 0,.int .i64 0,.int .i64 0,.int .i64 0,.int .i64 0,.int .i64 0,.int .i64 0,.int .i64 0] 25)).setRow (w.heap.size+1+1+1) (mC dZ))=V2 at I0 ⊢;clear RN;generalize w.heap.size+1+1+1=B at I0 ⊢;go_loopg[7] 4 (MzRel a b B w)
 case atStart=>exact ⟨0,rfl,rfl,by omega,fun j hj=>absurd hj (by omega),I0.out⟩
 case round =>
  clear I0;obtain ⟨c,hg,rfl,Wo,jS,I⟩:=hrel;have HI:=aA I;have kC:=aA jS;clear I jS;subst hg;by_cases hc:c<4
  ·have c1:(c:Int)<4:=by omega
   obtain ⟨o,ho⟩:∃o,qJ a b c=o:=⟨_,rfl⟩;obtain ⟨u,hu⟩:∃u,o.getD [0,0,0,0]=u:=⟨_,rfl⟩;obtain ⟨er,her⟩:∃er:Int,(if o.isSome then (0:Int) else 30)=er:=⟨_,rfl⟩;have hlu:u.length=4:=by
    rw[←hu]
    cases o with
    | none=>rfl
    | some x=>exact Pw ho
   have cA:Hid (vH 148 #[.agg (mC a),.agg #[.int .i64 (b.getD c 0),.int .i64 (b.getD (4+c) 0),.int .i64 (b.getD (8+c) 0),.int .i64 (b.getD (12+c) 0)]] (.tuple #[.agg (mC u),.int .i64 er])):=aA fun w=>by
    have:=VF a (rowOf (tr b) c) w LA.out rfl BA.out (by
     rw[NV b c hc];intro j
     match j with
     | 0=>exact BBd.out _
     | 1=>exact BBd.out _
     | 2=>exact BBd.out _
     | 3=>exact BBd.out _
     | j+4=>simp)
    rw[NV b c hc] at this;have e:uK a [b.getD c 0,b.getD (4+c) 0,b.getD (8+c) 0,b.getD (12+c) 0]=o:=by rw[←ho];unfold qJ;rw[NV b c hc]
    rw[e] at this;unfold YF at this;rw[hu,her] at this;exact this
   have hcb:Hid (∀W,dI 25 (w.heap.size+1) (mC b) W→W.cell? ⟨w.heap.size+1,c,none⟩=some (.int .i64 (b.getD c 0))∧W.cell? ⟨w.heap.size+1,4+c,none⟩=some (.int .i64 (b.getD (4+c) 0))∧W.cell? ⟨w.heap.size+1,8+c,none⟩=some (.int .i64 (b.getD (8+c) 0))∧W.cell? ⟨w.heap.size+1,12+c,none⟩=some (.int .i64 (b.getD (12+c) 0))):=aA (fun W h=>⟨by rw[h.cell,kR (by rw[LB.out];omega)],by rw[h.cell,kR (by rw[LB.out];omega)],by rw[h.cell,kR (by rw[LB.out];omega)],by rw[h.cell,kR (by rw[LB.out];omega)]⟩);have HO:=aA ho;have HU:=aA hu;have HER:=aA her;have HLU:=aA hlu;have infu:(prog.info? 23).map (·.size)=some (mC u).size:=by rw[YY,eV,hlu]
   have YI:=aA infu;clear ho hu her hlu infu;generalize b.getD c 0=b0 at cA hcb;generalize b.getD (4+c) 0=b1 at cA hcb;generalize b.getD (8+c) 0=b2 at cA hcb;generalize b.getD (12+c) 0=b3 at cA hcb;go_wp2_with fail;rename_i K5 Aw;refine (bN (n:=5)).1 (eA (S:=fun X=>Below wr.heap.size wr X) (Z:=[]) (by kernel_rfl) (by kernel_rfl) dU (fun d _ _ _ _ h=>by cases d <;> exact h) (eM _ _ 1) (fun hG rA hw0=>?_));refine dT [] 0 (.agg (mC a)) hG rfl (by kernel_rfl) hw0 (by kernel_rfl) ?_ ?_
   ·intro wz hSw;exact dY 25 (.tmp 2) (by kernel_rfl) (w.heap.size) (by kernel_rfl) _ _ _ _ (dI.below hSw HI.out.ra) aU (by kernel_rfl) Rn.out
   intro qZ kS eL;clear eL hw0 rA;try simp only[aQ]
   refine dT [] 1 (?_) hG rfl (by kernel_rfl) kS (by kernel_rfl) ?_ ?_;rotate_left
   ·intro wz hSw;first|(go_simp;done)|(go_simp;with_reducible rfl)
   intro qY hw2 eL;clear eL kS qZ;try simp only[aQ]
   refine dT [] 2 (?_) hG rfl (by kernel_rfl) hw2 (by kernel_rfl) ?_ ?_;rotate_left
   ·intro wz hSw;first|(go_simp;done)|(go_simp;with_reducible rfl)
   intro qX hw3 eL;clear eL hw2 qY;try simp only[aQ]
   refine dT [] 3 (.pointer (some ⟨w.heap.size+1,c,none⟩)) hG rfl (by kernel_rfl) hw3 (by kernel_rfl) ?_ ?_
   ·intro wz hSw;first|(go_simp;done)|(go_simp;with_reducible rfl)
   intro qW hw4 eL;clear eL hw3 qX;try simp only[aQ]
   refine dT [] 4 (.int .i64 b0) hG rfl (by kernel_rfl) hw4 (by kernel_rfl) ?_ ?_
   ·intro wz hSw;obtain ⟨q0,q1,q2,q3⟩:=hcb.out wz (dI.below hSw HI.out.rb);(first|(go_simp;done)|(go_simp;with_reducible rfl))
   intro qV lB eL;clear eL hw4 qW;try simp only[aQ]
   refine dT [] 5 (?_) hG rfl (by kernel_rfl) lB (by kernel_rfl) ?_ ?_;rotate_left
   ·intro wz hSw;first|(go_simp;done)|(go_simp;with_reducible rfl)
   intro qU kA eL;clear eL lB qV;try simp only[aQ]
   refine dT [] 6 (?_) hG rfl (by kernel_rfl) kA (by kernel_rfl) ?_ ?_;rotate_left
   ·intro wz hSw;first|(go_simp;done)|(go_simp;with_reducible rfl)
   intro qC kP eL;clear eL kA qU;try simp only[aQ]
   refine dT [] 7 (.pointer (some ⟨w.heap.size+1,4+c,none⟩)) hG rfl (by kernel_rfl) kP (by kernel_rfl) ?_ ?_
   ·intro wz hSw;first|(go_simp;done)|(go_simp;with_reducible rfl)
   intro sF kH eL;clear eL kP qC;try simp only[aQ]
   refine dT [] 8 (.int .i64 b1) hG rfl (by kernel_rfl) kH (by kernel_rfl) ?_ ?_
   ·intro wz hSw;obtain ⟨q0,q1,q2,q3⟩:=hcb.out wz (dI.below hSw HI.out.rb);(first|(go_simp;done)|(go_simp;with_reducible rfl))
   intro sD lI eL;clear eL kH sF;try simp only[aQ]
   refine dT [] 9 (?_) hG rfl (by kernel_rfl) lI (by kernel_rfl) ?_ ?_;rotate_left
   ·intro wz hSw;first|(go_simp;done)|(go_simp;with_reducible rfl)
   intro jG gH eL;clear eL lI sD;try simp only[aQ]
   refine dT [] 10 (?_) hG rfl (by kernel_rfl) gH (by kernel_rfl) ?_ ?_;rotate_left
   ·intro wz hSw;first|(go_simp;done)|(go_simp;with_reducible rfl)
   intro kL gQ eL;clear eL gH jG;try simp only[aQ]
   refine dT [] 11 (.pointer (some ⟨w.heap.size+1,8+c,none⟩)) hG rfl (by kernel_rfl) gQ (by kernel_rfl) ?_ ?_
   ·intro wz hSw;first|(go_simp;done)|(go_simp;with_reducible rfl)
   intro lH iG eL;clear eL gQ kL;try simp only[aQ]
   refine dT [] 12 (.int .i64 b2) hG rfl (by kernel_rfl) iG (by kernel_rfl) ?_ ?_
   ·intro wz hSw;obtain ⟨q0,q1,q2,q3⟩:=hcb.out wz (dI.below hSw HI.out.rb);(first|(go_simp;done)|(go_simp;with_reducible rfl))
   intro mS iW eL;clear eL iG lH;try simp only[aQ]
   refine dT [] 13 (?_) hG rfl (by kernel_rfl) iW (by kernel_rfl) ?_ ?_;rotate_left
   ·intro wz hSw;first|(go_simp;done)|(go_simp;with_reducible rfl)
   intro nH iZ eL;clear eL iW mS;try simp only[aQ]
   refine dT [] 14 (?_) hG rfl (by kernel_rfl) iZ (by kernel_rfl) ?_ ?_;rotate_left
   ·intro wz hSw;first|(go_simp;done)|(go_simp;with_reducible rfl)
   intro oB jM eL;clear eL iZ nH;try simp only[aQ]
   refine dT [] 15 (.pointer (some ⟨w.heap.size+1,12+c,none⟩)) hG rfl (by kernel_rfl) jM (by kernel_rfl) ?_ ?_
   ·intro wz hSw;first|(go_simp;done)|(go_simp;with_reducible rfl)
   intro sG jB eL;clear eL jM oB;try simp only[aQ]
   refine dT [] 16 (.int .i64 b3) hG rfl (by kernel_rfl) jB (by kernel_rfl) ?_ ?_
   ·intro wz hSw;obtain ⟨q0,q1,q2,q3⟩:=hcb.out wz (dI.below hSw HI.out.rb);(first|(go_simp;done)|(go_simp;with_reducible rfl))
   intro VH EI eL;clear eL jB sG;try simp only[aQ]
   refine dT [] 17 (.agg #[.int .i64 b0,.int .i64 b1,.int .i64 b2,.int .i64 b3]) hG rfl (by kernel_rfl) EI (by kernel_rfl) ?_ ?_
   ·intro wz hSw;first|(go_simp;done)|(go_simp;with_reducible rfl)
   intro Dj xM eL;clear eL EI VH;try simp only[aQ]
   refine lC [] 18 148 #[.agg (mC a),.agg #[.int .i64 b0,.int .i64 b1,.int .i64 b2,.int .i64 b3]] (.tuple #[.agg (mC u),.int .i64 er]) hG rfl (by kernel_rfl) xM (by kernel_rfl) ?_ (cA.out) ?_
   ·intro wz;(first|(go_simp;done)|(go_simp;with_reducible rfl))
   intro vw19 hw19 eL;clear eL xM Dj;try simp only[aQ]
   refine dT [] 19 (?_) hG rfl (by kernel_rfl) hw19 (by kernel_rfl) ?_ ?_;rotate_left
   ·intro wz hSw;first|(go_simp;done)|(go_simp;with_reducible rfl)
   intro vw20 hw20 eL;clear eL hw19 vw19;try simp only[aQ]
   refine dT [] 20 (?_) hG rfl (by kernel_rfl) hw20 (by kernel_rfl) ?_ ?_;rotate_left
   ·intro wz hSw;first|(go_simp;done)|(go_simp;with_reducible rfl)
   intro vw21 hw21 eL;clear eL hw20 vw20;try simp only[aQ]
   refine dT [] 21 (?_) hG rfl (by kernel_rfl) hw21 (by kernel_rfl) ?_ ?_;rotate_left
   ·intro wz hSw;first|(go_simp;done)|(go_simp;with_reducible rfl)
   intro uj Vu eL;clear eL hw21 vw21;try simp only[aQ]
   refine fN 22 (by kernel_rfl) rfl (fun K hK=>?_);go_simp;obtain ⟨bC,Wt⟩:∃b,uj.heap.size=b:=⟨_,rfl⟩;have gbC:wr.heap.size≤bC:=by rw[←Wt];exact Vu.size
   rw[Wt];have Mg:Below wr.heap.size wr (uj.alloc (.cells #[.int .i64 0,.int .i64 0,.int .i64 0,.int .i64 0] 23)):=Below.alloc Vu (by have:=Vu.size;omega) _;have TC:=(show dI 23 bC #[.int .i64 0,.int .i64 0,.int .i64 0,.int .i64 0] (uj.alloc (.cells #[.int .i64 0,.int .i64 0,.int .i64 0,.int .i64 0] 23)) by rw[←Wt];exact dI.new _ _ _);refine hK.out _ _ (fun _=>Mg) (fun vw23 eL=>?_);have hw23:=dU _ _ Mg eL;have RC:=dI.below eL TC;clear TC;clear eL hK K Vu Mg;try simp only[aQ]
   clear Wt;refine fN 23 (by kernel_rfl) rfl (fun K hK=>?_);rw[aZ (by kernel_rfl)];refine eD (fun _=>trivial) 23 (.tmp 8) (.tmp 36) (by kernel_rfl) (bC) _ _ (mC u) (by kernel_rfl) (by kernel_rfl) RC YI.out (by rw[eV,HLU.out];rfl) (iV _) ?_;have Mf:Below wr.heap.size wr (vw23.setRow bC (mC u)):=Below.row hw23 (by omega) _;have TC:=dI.row RC (mC u);refine hK.out _ _ (fun _=>Mf) (fun vw24 eL=>?_);have hw24:=dU _ _ Mf eL;replace RC:=dI.below eL TC;clear TC;clear eL hK K hw23 Mf;try simp only[aQ]
   refine dT [] 24 (?_) hG rfl (by kernel_rfl) hw24 (by kernel_rfl) ?_ ?_;rotate_left
   ·intro wz hSw;first|(go_simp;done)|(go_simp;with_reducible rfl)
   intro vw25 hw25 eL;replace RC:=dI.below eL RC;clear eL hw24 vw24;try simp only[aQ]
   refine eK (by kernel_rfl) (?_) _;refine Aw _ _ ?_;have RCH:=aA RC;have I1:=aA (HI.out.up hw25);have gC:B<bC:=by have:=HI.out.ro.lt;omega
   clear RC Aw hG HI cA hcb gbC hw25
   cases o with
   | none =>
    obtain rfl:er=30:=HER.out.symm;have sQ:Hid (rE a b=none):=aA (KG hc HO.out);go_wp2_with (first|(refine gI rfl 25 #[] rfl (mC dZ) (by kernel_rfl) ?_)|(refine dG rfl 25 (.tmp 4) (.tmp 40) rfl (w.heap.size+1+1) _ _ (mC dZ) rfl rfl I1.out.rr iT rfl (iV _) ?_))
    (try simp only[Exit.inBlock,Exit.then])
    exact aO (v:=.tuple #[.agg (mC dZ),.int .i64 30]) (eY rfl _ _ (w.heap.size+1+1) _ (mC dZ) _ _ (.int .i64 30) rfl (I1.out.rr.row _) aU rfl (by kernel_rfl) rfl) rfl ⟨by rw[sQ.out];rfl,Below.row I1.out.below (by omega) _⟩
   | some x =>
    obtain rfl:x=u:=HU.out;obtain rfl:er=0:=HER.out.symm;have HX:Hid (∀r,XT a b c r=x.getD r 0):=aA (fun r=>by unfold XT;rw[HO.out];rfl);go_wp2_with fail;go_loopg[10] 4 (MyRel a b B c bC x w)
    case atStart=>exact ⟨0,rfl,rfl,by omega,I1.out,RCH.out⟩
    case round =>
     clear I1 RCH;obtain ⟨r,hg,rfl,hr4,I,RC⟩:=hrel;have HI:=aA I;have Ys:=aA RC;clear I RC;subst hg;by_cases hr:r<4
     ·have r1:(r:Int)<4:=by omega
      obtain ⟨y,hy⟩:∃y,XT a b c r=y:=⟨_,rfl⟩;have PD:Hid (∀W,Ij a b B c r w W→Ij a b B c (r+1) w (W.setCell ⟨B,r*4+c,none⟩ (.int .i64 y))):=aA (fun W h=>by have:=h.next hc hr;rw[hy] at this;exact this);have hcu:Hid (∀W,dI 23 bC (mC x) W→W.cell? ⟨bC,r,none⟩=some (.int .i64 y)):=aA (fun W h=>by rw[h.cell,kR (by rw[HLU.out];exact hr),←hy,HX.out]);clear hy;go_wp2_with fail;rename_i K11 hK11;refine (bN (n:=5)).1 (eA (S:=fun X=>Below wr.heap.size wr X) (Z:=[7]) (by kernel_rfl) (by kernel_rfl) dU (fun d _ _ _ _ h=>by cases d <;> exact h) (eM _ _ 1) (fun hG rA hw0=>?_));refine dF [7] 0 (?_) hG rfl (by kernel_rfl) hw0 (by kernel_rfl) ?_ ?_;rotate_left
      ·intro wz hSw;first|(go_simp;done)|(go_simp;with_reducible rfl)
      intro qZ kS;clear hw0 rA;try simp only[aQ]
      refine dF [7] 1 (?_) hG rfl (by kernel_rfl) kS (by kernel_rfl) ?_ ?_;rotate_left
      ·intro wz hSw;first|(go_simp;done)|(go_simp;with_reducible rfl)
      intro qY hw2;clear kS qZ;try simp only[aQ]
      refine dF [7] 2 (?_) hG rfl (by kernel_rfl) hw2 (by kernel_rfl) ?_ ?_;rotate_left
      ·intro wz hSw;first|(go_simp;done)|(go_simp;with_reducible rfl)
      intro qX hw3;clear hw2 qY;try simp only[aQ]
      refine dF [7] 3 (.pointer (some ⟨bC,r,none⟩)) hG rfl (by kernel_rfl) hw3 (by kernel_rfl) ?_ ?_
      ·intro wz hSw;first|(go_simp;done)|(go_simp;with_reducible rfl)
      intro qW hw4;clear hw3 qX;try simp only[aQ]
      refine dF [7] 4 (.int .i64 y) hG rfl (by kernel_rfl) hw4 (by kernel_rfl) ?_ ?_
      ·intro wz hSw;have hcc:=hcu.out wz (dI.below hSw Ys.out);(first|(go_simp;done)|(go_simp;with_reducible rfl))
      intro qV lB;clear hw4 qW;try simp only[aQ]
      refine dF [6,7] 5 (.pointer (some ⟨B,r*4,none⟩)) hG rfl (by kernel_rfl) lB (by kernel_rfl) ?_ ?_
      ·intro wz hSw;first|(go_simp;done)|(go_simp;with_reducible rfl)
      intro qU kA;clear lB qV;try simp only[aQ]
      refine dF [7] 6 (.pointer (some ⟨B,r*4+c,none⟩)) hG rfl (by kernel_rfl) kA (by kernel_rfl) ?_ ?_
      ·intro wz hSw;first|(go_simp;done)|(go_simp;with_reducible rfl)
      intro qC kP;clear kA qU;try simp only[aQ]
      have hs:=HI.out.up kP;have GL:=Ys.out.below kP;have hco:qC.cell? ⟨B,r*4+c,none⟩=some (.int .i64 ((MK a b c r).getD (r*4+c) 0)):=by rw[hs.ro.cell,kR (by rw[La];omega)]
      have hfo:qC.frozen? ⟨B,r*4+c,none⟩=false:=hs.ro.free;refine fN 7 (by kernel_rfl) rfl (fun K hK=>?_);go_simp;refine hK.out _ _ (fun h=>by cases h) (fun x4 Vt=>?_);clear hK K;have I2:=aA ((PD.out _ hs).up Vt);have RC2:=aA (dI.below Vt (GL.iU (k:=B) (j:=r*4+c) (by omega) (.int .i64 y)));clear hs GL hco hfo Vt;refine eK (by kernel_rfl) (?_) _;refine hK11 _ _ ?_;clear hK11 hG HI Ys PD hcu kP qC;go_wp2_with fail;go_roundg (4-(r+1))
      case measure=>omega
      case rel=>exact ⟨r+1,rfl,by go_num,by omega,I2.out,RC2.out⟩
     ·obtain rfl:r=4:=by omega
      have r1:¬ ((4:Nat):Int)<4:=by omega
      have I2:Hid (Ij a b B (c+1) 0 w wr):=aA (by have h:=HI.out;exact ⟨h.ra,h.rb,h.rr,by have:=h.ro;rw[Lc _ _ _ hc] at this;exact this,h.below,h.lt⟩);clear HI Ys;go_wp2_with fail;go_roundg (4-(c+1))
      case measure=>omega
      case rel =>
       refine ⟨c+1,rfl,by go_num,by omega,fun j hj=>?_,I2.out⟩;by_cases hjc:j<c
       ·exact kC.out j hjc
       ·rw[show j=c by omega,HO.out];rfl
  ·obtain rfl:c=4:=by omega
   have c1:¬ ((4:Nat):Int)<4:=by omega
   have Hh:Hid (rE a b=some (tr (KT a b))):=aA (Vi kC.out);have RO:Hid (dI 25 B (mC (tr (KT a b))) wr):=aA (by have:=HI.out.ro;rw[Lb] at this;exact this);have RR:Hid (dI 25 (w.heap.size+1+1) (mC dZ) wr):=aA HI.out.rr;have Vr:Hid ((prog.info? 25).map (·.size)=some (mC (tr (KT a b))).size):=aA (by rw[iT,eV,vY]);have same:Hid ((mC dZ).size=(mC (tr (KT a b))).size):=aA (by rw[eV,eV,vY];rfl);have HE:Hid (Below w.heap.size w (wr.setRow (w.heap.size+1+1) (mC (tr (KT a b))))):=aA (Below.row HI.out.below (by omega) _);clear HI;generalize tr (KT a b)=Q at Hh RO Vr same HE;go_wp2_with (first|(refine wpList_load_row rfl 25 (.tmp 6) rfl (B) rfl _ _ _ _ RO.out aU rfl Vr.out ?_)|(refine dG rfl 25 (.tmp 4) (.tmp 53) rfl (w.heap.size+1+1) _ _ (mC Q) rfl rfl RR.out Vr.out same.out (iV _) ?_))
   exact aO (v:=.tuple #[.agg (mC Q),.int .i64 0]) (eY rfl _ _ (w.heap.size+1+1) _ (mC Q) _ _ (.int .i64 0) rfl (RR.out.row _) aU rfl Vr.out rfl) rfl ⟨by rw[Hh.out];rfl,HE.out⟩
end Fx
namespace Fx
open Go Go.RowKit
def xJ (s:eF)(x:eE)(k:Nat):Bool:=wB 16777216 x.m 16
def qF (o:Option (List Int)):Bool:=match o with
 | none=>false
 | some m=>wB 67108864 m 16
def EF (s:eF)(x:eE)(k:Nat):Bool:=qF (rE s.jN x.m)
theorem sV {m:List Int}(h:m.length=16):(prog.info? 25).map (·.size)=some (m.map encI).length:=by rw[iT,aT,h]
theorem DG {V:World}{b:Nat}{m:List Int}{t:TypeId}{fr:Nat×Nat}(h:V.heap[b]?=some (.cells (mC m) t fr)):V.rangeAt b 0 (m.map encI):=fun j v hj=>by
 rw[aD _ _ _ _ _ _ h,bE]
 simpa[mC] using hj
theorem xD {a b m:List Int}(h:rE a b=some m):m.length=16:=by
 unfold rE at h
 split at h
 ·cases h;rfl
 ·cases h
theorem Tr (s:eF)(x:eE)(k:Nat)(w:World)(hs:iA s)(h:eN w s.oo s.os)(hx:s.os[k]?=some x) :
  Calls prog 105 #[.agg (eU s),.int .i64 (k:Int),.int .i64 5] w (fJ (xJ s x k) w):=by
 have HI:Hid (wR s x w ((w.alloc (.cells (eU s) 28)).alloc (.cells (dP x).toArray 73))):=aA (wR.new hs h hx);obtain ⟨b,off,e,lX⟩:=h k x hx;have hat:=lX.below (show Below w.heap.size w (w.alloc (.cells (eU s) 28)) by go_grown);have HR:=aA hat.cells;have HX:=aA hat.wf;have lW:=aA (show (prog.info? 73).map (·.size)=some (dP x).length by rw[dX hat.wf];kernel_rfl);have oY:=aA (show (prog.info? 73).map (·.size)=some (dP x).toArray.size by rw[aL,dX hat.wf];kernel_rfl);have HL:=aA (show 19=(dP x).toArray.size by rw[aL,dX hat.wf]);have mX:=aA (nL x);have c18:(w.alloc (.cells (eU s) 28)).cell? ⟨w.heap.size,18,none⟩=some (.slice s.oo s.os.length s.oc):=(eZ.new w s).c18 hs;have wI:k<s.os.length:=(aY.1 hx).1;have gR:=hs.cap.1;rw[e] at c18;obtain ⟨n,hn⟩:∃n,s.os.length=n:=⟨_,rfl⟩;rw[hn] at c18 gR wI;have n0:(0:Int)≤(n:Int):=by omega
 have n1:(n:Int)≤9223372036854775807:=by omega
 have k0:(0:Int)≤(k:Int):=by omega
 have k1:(k:Int)<(n:Int):=by omega
 clear hn hs h hx hat lX wI gR e;go_enter func105,ntmps105;have hM:=aA (sV HX.out.len);go_wp2_with (first|(refine wpList_load_mid rfl 73 (.tmp 22) rfl b (off+k*19) rfl (dP x) _ HR.out bW rfl lW.out ?_)|(refine eJ rfl 73 (.tmp 7) (.tmp 23) rfl (w.heap.size+1) _ _ (dP x).toArray rfl (aR _ _) rfl oY.out HL.out mX.out ?_;generalize ((w.alloc (.cells (eU s) 28)).alloc (.cells (dP x).toArray 73))=V at HI ⊢;clear c18 HR)|(refine wpList_load_mid rfl 25 (.tmp 51) rfl (w.heap.size+1) 1 rfl (x.m.map encI) _ HI.out.GJ aU rfl hM.out ?_))
 refine (nE x.m 16777216 V HX.out.len (by omega) (by omega)).mono ?_;rintro e w1 ⟨rfl,hb⟩;have jK:=aA hb;clear hb;go_wp2_with fail;go_ret;exact ⟨rfl,dN HI.out.gL jK.out⟩
theorem Tq (s:eF)(x:eE)(k:Nat)(w:World)(hs:iA s)(h:eN w s.oo s.os)(hx:s.os[k]?=some x) :
  Calls prog 105 #[.agg (eU s),.int .i64 (k:Int),.int .i64 6] w (fJ (EF s x k) w):=by
 have HI:Hid (wR s x w ((w.alloc (.cells (eU s) 28)).alloc (.cells (dP x).toArray 73))):=aA (wR.new hs h hx);have HS:=aA hs;obtain ⟨b,off,e,lX⟩:=h k x hx;have hat:=lX.below (show Below w.heap.size w (w.alloc (.cells (eU s) 28)) by go_grown);have HR:=aA hat.cells;have HX:=aA hat.wf;have lW:=aA (show (prog.info? 73).map (·.size)=some (dP x).length by rw[dX hat.wf];kernel_rfl);have oY:=aA (show (prog.info? 73).map (·.size)=some (dP x).toArray.size by rw[aL,dX hat.wf];kernel_rfl);have HL:=aA (show 19=(dP x).toArray.size by rw[aL,dX hat.wf]);have mX:=aA (nL x);have c18:(w.alloc (.cells (eU s) 28)).cell? ⟨w.heap.size,18,none⟩=some (.slice s.oo s.os.length s.oc):=(eZ.new w s).c18 hs;have wI:k<s.os.length:=(aY.1 hx).1;have gR:=hs.cap.1;rw[e] at c18;obtain ⟨n,hn⟩:∃n,s.os.length=n:=⟨_,rfl⟩;rw[hn] at c18 gR wI;have n0:(0:Int)≤(n:Int):=by omega
 have n1:(n:Int)≤9223372036854775807:=by omega
 have k0:(0:Int)≤(k:Int):=by omega
 have k1:(k:Int)<(n:Int):=by omega
 clear hn hs h hx hat lX wI gR e;go_enter func105,ntmps105;have hM:=aA (sV HX.out.len);have hC:=aA (sV HS.out.len);go_wp2_with (first|(refine wpList_load_mid rfl 73 (.tmp 22) rfl b (off+k*19) rfl (dP x) _ HR.out bW rfl lW.out ?_)|(refine eJ rfl 73 (.tmp 7) (.tmp 23) rfl (w.heap.size+1) _ _ (dP x).toArray rfl (aR _ _) rfl oY.out HL.out mX.out ?_;generalize ((w.alloc (.cells (eU s) 28)).alloc (.cells (dP x).toArray 73))=V at HI ⊢;clear c18 HR)|(refine wpList_load_mid rfl 25 (.tmp 57) rfl w.heap.size 2 rfl (s.jN.map encI) _ HI.out.jN aU rfl hC.out ?_)|(refine wpList_load_mid rfl 25 (.tmp 59) rfl (w.heap.size+1) 1 rfl (x.m.map encI) _ HI.out.GJ aU rfl hM.out ?_))
 refine (Dc s.jN x.m V HS.out.len HX.out.len HS.out.num HX.out.num).mono ?_;unfold Ci;obtain ⟨r,hr⟩:∃r,rE s.jN x.m=r:=⟨_,rfl⟩;have HK:Hid (EF s x k=qF r):=aA (by unfold EF;rw[hr]);have UL:Hid ((r.getD dZ).length=16):=aA (by
  cases r with
  | none=>rfl
  | some m=>exact xD hr)
 have HE:Hid (qF r=((if r.isSome then (0:Int) else 30) == 0 && wB 67108864 (r.getD dZ) 16)):=aA (by
  cases r with
  | none=>rfl
  | some m=>rfl)
 rw[hr];clear hr;generalize (r.getD dZ)=u at UL HE ⊢;generalize (if r.isSome then (0:Int) else 30)=er at HE ⊢;rintro e w1 ⟨rfl,hb⟩;have jK:=aA (dN HI.out.gL hb);clear hb;have hU:=aA (sV UL.out);have hUA:=aA (show (prog.info? 25).map (·.size)=some (mC u).size by rw[iT,eV,UL.out]);have hUL:=aA (show 16=(mC u).size by rw[eV,UL.out]);have oz:=aA (DG (aG w1 (.cells (mC u) 25)));have mI:Hid (Below w.heap.size w (w1.alloc (.cells (mC u) 25))):=aA (Below.alloc jK.out jK.out.size _);go_wp2_with (first|(refine eJ rfl 25 (.tmp 9) (.tmp 62) rfl w1.heap.size _ _ (mC u) rfl rfl rfl hUA.out hUL.out (iV _) ?_)|(refine wpList_load_mid rfl 25 (.tmp 9) rfl w1.heap.size 0 rfl (u.map encI) _ oz.out aU rfl hU.out ?_))
 refine (nE u 67108864 _ UL.out (by omega) (by omega)).mono ?_;rintro e w2 ⟨rfl,hb⟩;have LF:=aA (dN mI.out hb);clear hb;obtain ⟨ok,jS⟩:∃b,wB 67108864 u 16=b:=⟨_,rfl⟩;rw[jS] at HE ⊢;clear jS;by_cases h0:er=0
 ·subst h0
  go_wp2_with fail;go_ret;exact ⟨by rw[HK.out,HE.out];rfl,LF.out⟩
 ·go_wp2_with fail
  go_ret;exact ⟨by rw[HK.out,HE.out,show (er == 0)=false by simpa using h0];rfl,LF.out⟩
def tU (s:eF)(x:eE)(k r:Nat):Bool:=if r=4 then rF s x k else if r=5 then xJ s x k else if r=6 then EF s x k else if r=7 then tW s x k else tV s x k
theorem VD (s:eF)(x:eE)(k r:Nat)(w:World)(hs:iA s)(h:eN w s.oo s.os)(hx:s.os[k]?=some x)(h4:4≤r)(h8:r≤8) :
  Calls prog 105 #[.agg (eU s),.int .i64 (k:Int),.int .i64 (r:Int)] w (fJ (tU s x k r) w):=by
 obtain rfl|rfl|rfl|rfl|rfl:r=4∨r=5∨r=6∨r=7∨r=8:=by omega
 ·exact Ts s x k w hs h hx
 ·exact Tr s x k w hs h hx
 ·exact Tq s x k w hs h hx
 ·exact Tp s x k w hs h hx
 ·exact Tn s x k w hs h hx
def nQ (s:eF)(r k:Nat):Bool:=match s.os[k]? with
 | some x=>!tU s x k r
 | none=>false
def jF (s:eF)(r:Nat):Option Nat:=(List.range s.os.length).find? (nQ s r)
def rB (s:eF):Bool:=decide (s.w<1) || decide (64<s.w) || decide (s.h<1) || decide (64<s.h)
def fM (s:eF):Int×Int :=
 if rB s=true then (1,-1) else if wB 16777216 s.jN 16=false then (2,-1) else if 16<s.os.length then (3,-1) else
 (([4,5,6,7,8]:List Nat).findSome? fun r=>(jF s r).map fun k=>((r:Int),(k:Int))).getD (0,-1)
theorem FT {s:eF}{r:Nat}(h:∀k,k<s.os.length→nQ s r k=false):jF s r=none:=by
 unfold jF;rw[List.find?_eq_none];intro k hk;rw[h k (by simpa using hk)];simp
theorem FR {s:eF}{r k:Nat}(hk:k<s.os.length)(h:∀j,j<k→nQ s r j=false)(hb:nQ s r k=true):jF s r=some k:=by
 unfold jF;rw[List.find?_eq_some_iff_append];refine ⟨hb,List.range k,(List.range (s.os.length-k-1)).map (· + (k+1)),?_,?_⟩
 ·rw[show s.os.length=k+(1+(s.os.length-k-1)) by omega,List.range_add,List.range_add]
  simp;intro a ha;omega
 ·intro j hj
  rw[h j (by simpa using hj)];rfl
theorem PN {s:eF}{r k:Nat}(h1:rB s=false)(h2:wB 16777216 s.jN 16=true)(h3:s.os.length≤16)(h4:4≤r)(h8:r≤8)(hn:∀q,4≤q→q<r→jF s q=none)(hb:jF s r=some k):fM s=((r:Int),(k:Int)):=by
 unfold fM;rw[bF (by simp[h1]),bF (by simp[h2]),bF (by omega)];obtain rfl|rfl|rfl|rfl|rfl:r=4∨r=5∨r=6∨r=7∨r=8:=by omega
 ·simp[List.findSome?,hb]
 ·simp[List.findSome?,hb,hn 4 (by omega) (by omega)]
 ·simp[List.findSome?,hb,hn 4 (by omega) (by omega),hn 5 (by omega) (by omega)]
 ·simp[List.findSome?,hb,hn 4 (by omega) (by omega),hn 5 (by omega) (by omega),hn 6 (by omega) (by omega)]
 ·simp[List.findSome?,hb,hn 4 (by omega) (by omega),hn 5 (by omega) (by omega),hn 6 (by omega) (by omega),hn 7 (by omega) (by omega)]
theorem JI {s:eF}(h1:rB s=false)(h2:wB 16777216 s.jN 16=true)(h3:s.os.length≤16)(hn:∀q,4≤q→q<9→jF s q=none):fM s=(0,-1):=by
 unfold fM;rw[bF (by simp[h1]),bF (by simp[h2]),bF (by omega)];simp[List.findSome?,hn 4 (by omega) (by omega),hn 5 (by omega) (by omega),hn 6 (by omega) (by omega),hn 7 (by omega) (by omega),hn 8 (by omega) (by omega)]
structure Hc (s:eF)(w V:World):Prop where
 sc:eZ w.heap.size s V
 ob:eN V s.oo s.os
 gL:Below w.heap.size w V
theorem Hc.up {s:eF}{w V X:World}(i:Hc s w V)(hb:Below V.heap.size V X):Hc s w X:=⟨i.sc.below hb,i.ob.below hb,dN i.gL hb⟩
theorem Hc.new {s:eF}{w:World}(h:eN w s.oo s.os):Hc s w (w.alloc (.cells (eU s) 28)) :=
 ⟨eZ.new w s,h.below (by go_grown),by go_grown⟩
theorem Hc.all {s:eF}{w V:World}(i:Hc s w V):V.rangeAt w.heap.size 0 (fP s):=fun j v hj=>by
 rw[bE];exact i.sc.at.trans hj
def WoRel (s:eF)(w:World)(g:Nat)(u:Value)(W:World):Prop :=
 ∃r,g=9-r∧u=.int .i64 (r:Int)∧4≤r∧r≤9∧(∀q,4≤q→q<r→jF s q=none)∧Hc s w W
def WiRel (s:eF)(w:World)(n r:Nat)(g:Nat)(u:Value)(W:World):Prop :=
 ∃k,g=n-k∧u=.int .i64 (k:Int)∧k≤n∧(∀j,j<k→nQ s r j=false)∧Hc s w W
def rQ (p:Int×Int)(w:World)(e:Ending)(w':World):Prop:=e=.returned (.tuple #[.int .i64 p.1,.int .i64 p.2])∧Below w.heap.size w w'
theorem UY (s:eF)(w:World)(hs:iA s)(h:eN w s.oo s.os) :
  Calls prog 65 #[.agg (eU s)] w (rQ (fM s) w):=by
 have HI:=aA (Hc.new h);have HS:=aA hs;have c0:(w.alloc (.cells (eU s) 28)).cell? ⟨w.heap.size,0,none⟩=some (.int .i64 s.w):=(eZ.new w s).c0;have c1:(w.alloc (.cells (eU s) 28)).cell? ⟨w.heap.size,1,none⟩=some (.int .i64 s.h):=(eZ.new w s).c1;have HZ:Hid (rB s=(decide (s.w<1) || decide (64<s.w) || decide (s.h<1) || decide (64<s.h))):=aA rfl;have qO:Hid (rB s=true→fM s=(1,-1)):=aA (fun h=>by unfold fM;rw[aZ h]);clear h hs;generalize s.w=sw at c0 HZ;generalize s.h=sh at c1 HZ;by_cases h1:sw<1
 ·have HR:=aA (qO.out (by rw[HZ.out];simp[h1]))
  go_enter func65,ntmps65;go_wp2_with fail;go_ret2;exact ⟨by rw[HR.out];rfl,HI.out.gL⟩
 by_cases h2:64<sw
 ·have HR:=aA (qO.out (by rw[HZ.out];simp[h2]))
  go_enter func65,ntmps65;go_wp2_with fail;go_ret2;exact ⟨by rw[HR.out];rfl,HI.out.gL⟩
 by_cases h3:sh<1
 ·have HR:=aA (qO.out (by rw[HZ.out];simp[h3]))
  go_enter func65,ntmps65;go_wp2_with fail;go_ret2;exact ⟨by rw[HR.out];rfl,HI.out.gL⟩
 by_cases h4:64<sh
 ·have HR:=aA (qO.out (by rw[HZ.out];simp[h4]))
  go_enter func65,ntmps65;go_wp2_with fail;go_ret2;exact ⟨by rw[HR.out];rfl,HI.out.gL⟩
 have GR:Hid (rB s=false):=aA (by rw[HZ.out];simp[h1,h2,h3,h4]);have hC:=aA (sV HS.out.len);clear qO HZ;go_enter func65,ntmps65;go_wp2_with (refine wpList_load_mid rfl 25 (.tmp 25) rfl w.heap.size 2 rfl (s.jN.map encI) _ HI.out.sc.jN aU rfl hC.out ?_)
 clear c0 c1 h1 h2 h3 h4;generalize (w.alloc (.cells (eU s) 28))=V at HI ⊢;refine (nE s.jN 16777216 V HS.out.len (by omega) (by omega)).mono ?_;obtain ⟨ok,jS⟩:∃b,wB 16777216 s.jN 16=b:=⟨_,rfl⟩;have kC:=aA jS;rw[jS];clear jS;rintro e w1 ⟨rfl,hb⟩;have nX:=aA (HI.out.up hb);clear hb HI
 cases ok
 ·have HR:Hid (fM s=(2,-1)):=aA (by unfold fM;rw[bF (by simp[GR.out]),aZ kC.out])
  go_wp2_with fail;go_ret2;exact ⟨by rw[HR.out];rfl,nX.out.gL⟩
 have c18:=nX.out.sc.c18 HS.out;have gR:=HS.out.cap.1;obtain ⟨n,hn⟩:∃n,s.os.length=n:=⟨_,rfl⟩;have HN:=aA hn;rw[hn] at c18 gR;have n0:(0:Int)≤(n:Int):=by omega
 have n1:(n:Int)≤9223372036854775807:=by omega
 clear hn gR;by_cases h16:16<n
 ·have t1:(16:Int)<(n:Int):=by omega
  have HR:Hid (fM s=(3,-1)):=aA (by unfold fM;rw[bF (by simp[GR.out]),bF (by simp[kC.out]),aZ (by rw[HN.out];exact h16)]);go_wp2_with fail;go_ret2;exact ⟨by rw[HR.out];rfl,nX.out.gL⟩
 have t1:¬ (16:Int)<(n:Int):=by omega
 have H16:Hid (s.os.length≤16):=aA (by rw[HN.out];omega);clear h16;go_wp2_with fail;clear c18 t1;go_loopg[5] 5 (WoRel s w)
 case atStart=>exact ⟨4,rfl,rfl,by omega,by omega,fun q h1 h2=>absurd h1 (by omega),nX.out⟩
 case round =>
  clear nX;obtain ⟨r,hg,rfl,hr4,hr9,hq,I⟩:=hrel;have HI:=aA I;have HQ:=aA hq;subst hg;clear I hq;have r0:(0:Int)≤(r:Int):=by omega
  by_cases hr:r<9
  ·have t2:(r:Int)≤8:=by omega
   go_wp2_with fail;go_loopg[6] n (WiRel s w n r)
   case atStart=>exact ⟨0,rfl,rfl,by omega,fun j hj=>absurd hj (by omega),HI.out⟩
   case round =>
    clear HI;obtain ⟨k,hg,rfl,pK,hj,I⟩:=hrel;have HI:=aA I;have HJ:=aA hj;subst hg;clear I hj;have k0:(0:Int)≤(k:Int):=by omega
    have c18:=HI.out.sc.c18 HS.out;rw[HN.out] at c18;have hall:=aA (show (prog.info? 28).map (·.size)=some (fP s).length by rw[lR HS.out];kernel_rfl);by_cases hk:k<n
    ·have t3:(k:Int)<(n:Int):=by omega
     obtain ⟨x,hx⟩:∃x,s.os[k]?=some x:=⟨_,aF (by rw[HN.out];exact hk)⟩;have HBA:Hid (nQ s r k = !tU s x k r):=aA (by unfold nQ;rw[hx]);have HC:=aA (VD s x k r _ HS.out HI.out.ob hx hr4 (by omega));clear hx;go_wp2_with (refine wpList_load_mid rfl 28 (.tmp 1) rfl w.heap.size 0 rfl (fP s) _ HI.out.all aW rfl hall.out ?_)
     refine HC.out.mono ?_;obtain ⟨kp,hkp⟩:∃b,tU s x k r=b:=⟨_,rfl⟩;rw[hkp] at HBA ⊢;clear HC hkp;rintro e w2 ⟨rfl,hb⟩;have jP:=aA (HI.out.up hb);clear hb
     cases kp
     ·have HR:Hid (fM s=((r:Int),(k:Int))):=aA (PN GR.out kC.out H16.out hr4 (by omega) HQ.out (FR (by rw[HN.out];exact hk) HJ.out HBA.out))
      go_wp2_with fail;go_ret2;exact ⟨by rw[HR.out];rfl,jP.out.gL⟩
     ·go_wp2_with fail
      go_roundg (n-(k+1))
      case measure=>omega
      case rel =>
       refine ⟨k+1,rfl,by go_num,by omega,fun j hj=>?_,jP.out⟩;by_cases hjk:j<k
       ·exact HJ.out j hjk
       ·rw[show j=k by omega]
        exact HBA.out
    ·obtain rfl:k=n:=by omega
     have t3:¬ (k:Int)<(k:Int):=by omega
     have UX:Hid (jF s r=none):=aA (FT fun j hj=>HJ.out j (by rw[HN.out] at hj;exact hj));go_wp2_with fail;go_roundg (9-(r+1))
     case measure=>omega
     case rel =>
      refine ⟨r+1,rfl,by go_num,by omega,by omega,fun q h1 h2=>?_,HI.out⟩;by_cases hqr:q<r
      ·exact HQ.out q h1 hqr
      ·rw[show q=r by omega]
       exact UX.out
  ·obtain rfl:r=9:=by omega
   have t2:¬ ((9:Nat):Int)≤8:=by omega
   have HR:Hid (fM s=(0,-1)):=aA (JI GR.out kC.out H16.out HQ.out);go_wp2_with fail;go_ret2;exact ⟨by rw[HR.out];rfl,HI.out.gL⟩
def mK (s:eF):Bool:=decide ((fM s).1=0)
theorem CK (s:eF)(w:World)(hs:iA s)(h:eN w s.oo s.os) :
  Calls prog 34 #[.agg (eU s)] w fun e w'=>e=.returned (.int .i64 (if mK s=true then 0 else 60))∧Below w.heap.size w w':=by
 have HI:=aA (Hc.new h);have hall:=aA (show (prog.info? 28).map (·.size)=some (fP s).length by rw[lR hs];kernel_rfl);have HC:=aA (UY s _ hs HI.out.ob);clear h hs
 cases hc:mK s
 ·have h0:¬ (fM s).1=0:=by simpa[mK] using hc
  have e:((if false=true then 0 else 60:Int))=60:=rfl;rw[e];clear hc e;unfold rQ at HC;generalize fM s=p at HC h0;obtain ⟨p1,p2⟩:=p;dsimp only at HC h0;go_enter func34,ntmps34;go_wp2_with (refine wpList_load_mid rfl 28 (.tmp 1) rfl w.heap.size 0 rfl (fP s) _ HI.out.all aW rfl hall.out ?_)
  refine HC.out.mono ?_;rintro e w1 ⟨rfl,hb⟩;have HB:=aA (dN HI.out.gL hb);clear hb;go_wp2_with fail;go_ret;exact ⟨rfl,HB.out⟩
 ·have h0:(fM s).1=0:=by simpa[mK] using hc
  have e:((if true=true then 0 else 60:Int))=0:=rfl;rw[e];clear hc e;unfold rQ at HC;generalize fM s=p at HC h0;obtain ⟨p1,p2⟩:=p;dsimp only at HC h0;subst h0;go_enter func34,ntmps34;go_wp2_with (refine wpList_load_mid rfl 28 (.tmp 1) rfl w.heap.size 0 rfl (fP s) _ HI.out.all aW rfl hall.out ?_)
  refine HC.out.mono ?_;rintro e w1 ⟨rfl,hb⟩;have HB:=aA (dN HI.out.gL hb);clear hb;go_wp2_with fail;go_ret;exact ⟨rfl,HB.out⟩
theorem gS {P:Program}{o:Oper}{a:Act}{w:World}(ty:TypeId)(x:Operand)(ho:o.op=.load ty x)
  (b off:Nat) (hx:a.eval x=.pointer (some ⟨b,off,none⟩)) (cs:List Value) (d:TypeDesc) (hc:w.rangeAt b off cs)
  (hu:P.underlying ty=some d) (hd:d.isRow=true) (hi:(P.info? ty).map (·.size)=some cs.length) :
  (execOp a.eval o).run P w=.ok (.value (.agg cs.toArray)) w:=by
 unfold execOp;simp only[ho,hx,Instr.loadAt,Instr.sureAddr,Sem.run_bind,Sem.run_pure,Result.andThen_ok,run_loadVar_mid w b off ty cs d hc hu hd hi]
def nP (s:eF)(k:Int):Option (List Int):=if 0≤k∧k<(s.os.length:Int) then (s.os[k.toNat]?).bind fun x=>rE s.jN x.m else none
def Ck (o:Option (List Int))(w:World)(e:Ending)(w':World):Prop:=e=.returned (.tuple #[.agg (mC (o.getD dZ)),.int .i64 (if o.isSome then 0 else 60)])∧Below w.heap.size w w'
structure BoI (s:eF)(w V:World):Prop where
 sc:eZ w.heap.size s V
 rr:dI 25 (w.heap.size+1) (mC dZ) V
 ob:eN V s.oo s.os
 gL:Below w.heap.size w V
theorem BoI.up {s:eF}{w V X:World}(i:BoI s w V)(hb:Below V.heap.size V X):BoI s w X:=⟨i.sc.below hb,i.rr.below hb,i.ob.below hb,dN i.gL hb⟩
theorem BoI.new {s:eF}{w:World}(h:eN w s.oo s.os):BoI s w ((w.alloc (.cells (eU s) 28)).alloc (.cells #[.int .i64 0,.int .i64 0,.int .i64 0,.int .i64 0,.int .i64 0,.int .i64 0,.int .i64 0,.int .i64 0,.int .i64 0,.int .i64 0,.int .i64 0,.int .i64 0,.int .i64 0,.int .i64 0,.int .i64 0,.int .i64 0] 25)):=by
 have hB:Below w.heap.size w ((w.alloc (.cells (eU s) 28)).alloc (.cells #[.int .i64 0,.int .i64 0,.int .i64 0,.int .i64 0,.int .i64 0,.int .i64 0,.int .i64 0,.int .i64 0,.int .i64 0,.int .i64 0,.int .i64 0,.int .i64 0,.int .i64 0,.int .i64 0,.int .i64 0,.int .i64 0] 25)):=by go_grown
 refine ⟨dM (eZ.new w s),?_,h.below hB,hB⟩;have:=aG (w.alloc (.cells (eU s) 28)) (.cells #[.int .i64 0,.int .i64 0,.int .i64 0,.int .i64 0,.int .i64 0,.int .i64 0,.int .i64 0,.int .i64 0,.int .i64 0,.int .i64 0,.int .i64 0,.int .i64 0,.int .i64 0,.int .i64 0,.int .i64 0,.int .i64 0] 25);rw[aR] at this;exact this
end Fx
namespace Fx
open Go Go.RowKit Go.Shelf Wm
theorem qL:∀ (xs ys:List Int),xs.length=ys.length→((List.range xs.length).all fun i=>xs.getD i 0 == ys.getD i 0)=(xs == ys)
 | [],[],_=>rfl
 | x::xs,y::ys,h=>by
  have ih:=qL xs ys (by simpa using h);rw[bO,List.range_succ_eq_map,List.all_cons,List.all_map];simp only[List.getD_cons_zero,Function.comp_def,List.getD_cons_succ,ih];simp[List.cons_beq_cons]
 | [],_::_,h=>by simp at h
 | _::_,[],h=>by simp at h
theorem Oy (w:World)(d:Nat)(xs ys:List Int)(hx:xs.length=4)(hy:ys.length=4) :
  (Op.equalIn (d+2) 23 (.agg (mC xs)) (.agg (mC ys))).run prog w=.ok (xs == ys) w:=by
 have ht:=cP;have he:=underlying2;have hsz:=sizeOf2;rw[←qL xs ys (hx.trans hy.symm),hx,List.range_eq_range',Op.equalIn];simp only[Sem.run_bind,run_underlying ht,Result.andThen_ok,hsz,Std.Legacy.Range.forIn_eq_forIn_range',Std.Legacy.Range.size,Nat.sub_zero,cY,Nat.div_one];have hl:∀i∈List.range' 0 4 1,i<4:=fun i hi=>by simpa using (List.mem_range'_1.1 hi).2
 generalize List.range' 0 4 1=l at hl ⊢
 induction l with
 | nil=>simp
 | cons i l ih =>
  have hi:i<4:=hl i (by simp);have px:(part 2 (mC xs) (i*1)).run prog w=.ok (encI (xs.getD i 0)) w:=by
   simp[part,mC,isAgg,run_underlying he,List.getD,aF (show i<xs.length by omega)]
  have py:(part 2 (mC ys) (i*1)).run prog w=.ok (encI (ys.getD i 0)) w:=by
   simp[part,mC,isAgg,run_underlying he,List.getD,aF (show i<ys.length by omega)]
  have pe:(Op.equalIn (d+1) 2 (encI (xs.getD i 0)) (encI (ys.getD i 0))).run prog w=.ok (xs.getD i 0 == ys.getD i 0) w:=by
   rw[encI,encI,run_equalIn_int w d 2 .i64 .i64 _ _ he]
  simp only[List.forIn_cons,Sem.run_bind,px,py,pe,Result.andThen_ok,List.all_cons]
  cases hb:(xs.getD i 0 == ys.getD i 0)
  ·simp
  ·simp only[Bool.not_true,bD,if_false,Sem.run_pure,Result.andThen_ok,Bool.true_and]
   exact ih fun j hj=>hl j (by simp[hj])
theorem Uq {xs ys:List Int}(hx:xs.length=16)(hy:ys.length=16):((List.range 4).all fun i=>rowOf xs i == rowOf ys i)=(xs == ys):=by
 rw[Bool.eq_iff_iff,bU,beq_iff_eq]
 constructor
 ·intro h
  have h0:rowOf xs 0=rowOf ys 0:=by simpa using h 0 (by decide)
  have h1:rowOf xs 1=rowOf ys 1:=by simpa using h 1 (by decide)
  have h2:rowOf xs 2=rowOf ys 2:=by simpa using h 2 (by decide)
  have h3:rowOf xs 3=rowOf ys 3:=by simpa using h 3 (by decide)
  simp only[rowOf,Nat.zero_mul,Nat.reduceMul,bE,Nat.reduceAdd,List.cons.injEq,and_true] at h0 h1 h2 h3;rw[MQ hx,MQ hy,h0.1,h0.2.1,h0.2.2.1,h0.2.2.2,h1.1,h1.2.1,h1.2.2.1,h1.2.2.2,h2.1,h2.2.1,h2.2.2.1,h2.2.2.2,h3.1,h3.2.1,h3.2.2.1,h3.2.2.2]
 ·rintro rfl i _
  simp
theorem Oz (w:World)(d:Nat)(xs ys:List Int)(hx:xs.length=16)(hy:ys.length=16) :
  (Op.equalIn (d+3) 25 (.agg (mC xs)) (.agg (mC ys))).run prog w=.ok (xs == ys) w:=by
 have ht:=aU;have he:=cP;have hsz:=sizeOf23;rw[←Uq hx hy,List.range_eq_range',Op.equalIn];simp only[Sem.run_bind,run_underlying ht,Result.andThen_ok,hsz,Std.Legacy.Range.forIn_eq_forIn_range',Std.Legacy.Range.size,Nat.sub_zero,cY,Nat.div_one];have hl:∀i∈List.range' 0 4 1,i<4:=fun i hi=>by simpa using (List.mem_range'_1.1 hi).2
 generalize List.range' 0 4 1=l at hl ⊢
 induction l with
 | nil=>simp
 | cons i l ih =>
  have hi:i<4:=hl i (by simp);have px:∀zs:List Int,zs.length=16→(part 23 (mC zs) (i*4)).run prog w=.ok (.agg (mC (rowOf zs i))) w:=by
   intro zs hz;simp[part,isAgg,run_underlying he,hsz];rw[MQ hz];have hd:i=0∨i=1∨i=2∨i=3:=by omega
   rcases hd with rfl|rfl|rfl|rfl <;> rfl
  have pe:=Oy w d (rowOf xs i) (rowOf ys i) rfl rfl;simp only[List.forIn_cons,Sem.run_bind,px xs hx,px ys hy,pe,Result.andThen_ok,List.all_cons]
  cases hb:(rowOf xs i == rowOf ys i)
  ·simp
  ·simp only[Bool.not_true,bD,if_false,Sem.run_pure,Result.andThen_ok,Bool.true_and]
   exact ih fun j hj=>hl j (by simp[hj])
theorem EB (w:World)(xs ys:List Int)(hx:xs.length=16)(hy:ys.length=16) :
  (binOp .neq 25 (.agg (xs.map encI).toArray) (.agg (ys.map encI).toArray)).run prog w=.ok (.bool (!(xs == ys))) w:=by
 have h:=Oz w 9997 xs ys hx hy;unfold mC at h;rw[run_neq_struct,h];rfl
theorem Xf (w:World)(d:Nat)(xs ys:List Int)(hx:xs.length=3)(hy:ys.length=3) :
  (Op.equalIn (d+2) 85 (.agg (mC xs)) (.agg (mC ys))).run prog w=.ok (xs == ys) w:=by
 have ht:=cU;have he:=underlying2;have hsz:=sizeOf2;rw[←qL xs ys (hx.trans hy.symm),hx,List.range_eq_range',Op.equalIn];simp only[Sem.run_bind,run_underlying ht,Result.andThen_ok,hsz,Std.Legacy.Range.forIn_eq_forIn_range',Std.Legacy.Range.size,Nat.sub_zero,cY,Nat.div_one];have hl:∀i∈List.range' 0 3 1,i<3:=fun i hi=>by simpa using (List.mem_range'_1.1 hi).2
 generalize List.range' 0 3 1=l at hl ⊢
 induction l with
 | nil=>simp
 | cons i l ih =>
  have hi:i<3:=hl i (by simp);have px:(part 2 (mC xs) (i*1)).run prog w=.ok (encI (xs.getD i 0)) w:=by
   simp[part,mC,isAgg,run_underlying he,List.getD,aF (show i<xs.length by omega)]
  have py:(part 2 (mC ys) (i*1)).run prog w=.ok (encI (ys.getD i 0)) w:=by
   simp[part,mC,isAgg,run_underlying he,List.getD,aF (show i<ys.length by omega)]
  have pe:(Op.equalIn (d+1) 2 (encI (xs.getD i 0)) (encI (ys.getD i 0))).run prog w=.ok (xs.getD i 0 == ys.getD i 0) w:=by
   rw[encI,encI,run_equalIn_int w d 2 .i64 .i64 _ _ he]
  simp only[List.forIn_cons,Sem.run_bind,px,py,pe,Result.andThen_ok,List.all_cons]
  cases hb:(xs.getD i 0 == ys.getD i 0)
  ·simp
  ·simp only[Bool.not_true,bD,if_false,Sem.run_pure,Result.andThen_ok,Bool.true_and]
   exact ih fun j hj=>hl j (by simp[hj])
theorem zw (w:World)(xs ys:List Int)(hx:xs.length=3)(hy:ys.length=3) :
  (binOp .neq 85 (.agg (xs.map encI).toArray) (.agg (ys.map encI).toArray)).run prog w=.ok (.bool (!(xs == ys))) w:=by
 have h:=Xf w 9998 xs ys hx hy;unfold mC at h;rw[run_neq_struct,h];rfl
theorem Ve (w:World)(t u:gB) :
  (binOp .neq 87 (.agg (fC t).toArray) (.agg (fC u).toArray)).run prog w=.ok (.bool (!(decide (t=u)))) w:=by
 obtain ⟨a,b,c,l⟩:=t;obtain ⟨a',b',c',l'⟩:=u;have h:((Op.equalIn 10000 87 (.agg #[.int .i64 a,.int .i64 b,.int .i64 c,.int .u32 l]) (.agg #[.int .i64 a',.int .i64 b',.int .i64 c',.int .u32 l'])).run prog w)=.ok (a == a' && (b == b' && (c == c' && l == l'))) w:=by
  go_simp;by_cases h1:a=a' <;> by_cases h2:b=b' <;> by_cases h3:c=c' <;> by_cases h4:l=l' <;> simp[h1,h2,h3,h4]
 rw[run_neq_struct];unfold fC;rw[h];show Result.ok _ w=_
 congr 3
 by_cases h1:a=a' <;> by_cases h2:b=b' <;> by_cases h3:c=c' <;> by_cases h4:l=l' <;> simp[h1,h2,h3,h4]
end Fx
namespace Fx
open Go Go.RowKit
def yS (W:World)(B:Nat)(v:Value)(l:List Int):Prop:=W.ownsRow B 3 1 v l.length (l.map encI)
theorem yS.below {w W:World}{B:Nat}{v:Value}{l:List Int}(h:Below w.heap.size w W)(s:yS w B v l):yS W B v l:=by
 obtain ⟨h1,h2⟩:=s;refine ⟨h1,?_⟩
 rcases h2 with h2|⟨g,cap,cur,e,hb,hg,h3⟩
 ·exact Or.inl h2
 ·exact Or.inr ⟨g,cap,cur,e,hb,dL h hg,h3⟩
theorem yS.alloc {w:World}{B:Nat}{v:Value}{l:List Int}(s:yS w B v l)(o:Obj):yS (w.alloc o) B v l:=by
 obtain ⟨h1,h2⟩:=s;refine ⟨h1,?_⟩
 rcases h2 with h2|⟨g,cap,cur,e,hb,hg,h3⟩
 ·exact Or.inl h2
 ·exact Or.inr ⟨g,cap,cur,e,hb,dM hg,h3⟩
theorem yS.blk {w:World}{B:Nat}{v:Value}{l:List Int}(s:yS w B v l):∀k,v.ownBlock=some k→B≤k:=by
 intro k hk;obtain ⟨h1,h2⟩:=s
 rcases h2 with ⟨rfl,_⟩|⟨g,cap,cur,rfl,hb,_⟩
 ·cases hk
 ·cases hk
  exact hb
theorem yS.base {w:World}{B C:Nat}{v:Value}{l:List Int}(hc:C≤B)(s:yS w B v l):yS w C v l:=by
 obtain ⟨h1,h2⟩:=s;refine ⟨h1,?_⟩
 rcases h2 with h2|⟨g,cap,cur,e,hb,hg,h3⟩
 ·exact Or.inl h2
 ·exact Or.inr ⟨g,cap,cur,e,bH hc hb,hg,h3⟩
def qN (W:World)(o:Option Addr)(l:List Int):Prop:=∀i,i<l.length→∃b off,o=some ⟨b,off,none⟩∧W.cell? ⟨b,off+i,none⟩=some (.int .i64 (l.getD i 0))
theorem qN.below {w W:World}{o:Option Addr}{l:List Int}(hb:Below w.heap.size w W)(h:qN w o l):qN W o l:=fun i hi=>by
 obtain ⟨b,off,e,hc⟩:=h i hi;exact ⟨b,off,e,dE hb hc⟩
theorem yS.form {W:World}{B:Nat}{v:Value}{l:List Int}(s:yS W B v l):∃o cap,v=.slice o l.length cap∧qN W o l∧l.length≤maxLen:=by
 obtain ⟨h1,h2⟩:=s
 rcases h2 with ⟨rfl,h0⟩|⟨g,cap,cur,rfl,hb,hg,hle,hm,hsz,Vw⟩
 ·exact ⟨none,0,by rw[h0],fun i hi=>by omega,by omega⟩
 ·refine ⟨some ⟨g,0,none⟩,cap,rfl,fun i hi=>⟨g,0,rfl,?_⟩,bH hle hm⟩
  rw[aD _ _ _ _ _ _ hg,bE];have h3:(l.map encI)[i]?=some (.int .i64 (l.getD i 0)):=by
   rw[bZ,aF hi];simp[encI,List.getD,aF hi]
  rw[←Vw,List.getElem?_take,aZ (by omega)] at h3
  simpa using h3
theorem gZ {B:Nat}{W X Y:World}{row:Option Nat}(hB:B≤W.heap.size)(hb:Below B W X)(hg:X.grownBy Y row)(hr:∀k,row=some k→B≤k):Below B W Y :=
 ⟨hg.os.trans hb.os,hg.tape.trans hb.tape,hg.output.trans hb.output,bH hb.size hg.size,fun k hk=>(hg.block k (aP hk (bH hB hb.size)) (fun e=>by have:=hr k e.symm;omega)).trans (hb.block k hk)⟩
theorem Jv {α:Type}{a b:List α}{k:Nat}{x y:α}(hx:a[k]?=some x)(hy:b[k]?=some y)(h:a.take k=b.take k)(e:x=y):a.take (k+1)=b.take (k+1):=by
 rw[bX,bX,h,hx,hy,e]
theorem takne {α:Type}[DecidableEq α]{a b:List α}{k:Nat}{x y:α}(hx:a[k]?=some x)(hy:b[k]?=some y)(e:x≠y):decide (a=b)=false :=
 aN fun h=>e (by rw[h] at hx;exact bK (hx.symm.trans hy))
theorem vv {α:Type}[DecidableEq α]{a b:List α}{n:Nat}(ha:a.length=n)(hb:b.length=n)(h:a.take n=b.take n):decide (a=b)=true :=
 bA (by rw[bB (by omega),bB (by omega)] at h;exact h)
end Fx
end Go.Proofs.YtbbhmhihpdmoiaaGreat
