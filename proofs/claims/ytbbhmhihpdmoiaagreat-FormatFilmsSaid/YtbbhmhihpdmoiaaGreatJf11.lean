import Derived.Test.YtbbhmhihpdmoiaaGreatJf10
set_option linter.unusedVariables false
set_option linter.unusedSimpArgs false
set_option maxRecDepth 100000
set_option maxHeartbeats 32000000
namespace Go.Proofs.YtbbhmhihpdmoiaaGreat
open Go.Proofs.Tryz
namespace Fx
open Go Go.RowKit
theorem dQ {P:Program}{ops:Array Oper}{rest:List Oper}{op:Oper}{a:Act}{w:World}{Q:Exit→Act→World→Prop}(d:Option Tmp)(h:op.dst=d)(k:Hid (wpList P ops Q (op::rest) a w)):wpList P ops Q (op::rest) a w:=k.out
theorem Da (a b:eF)(w:World)(ha:iA a)(hb:iA b)(h:eN w a.oo a.os)(h2:eN w b.oo b.os)(h1:a.w=b.w)(h3:a.h=b.h)(h4:a.jN=b.jN)(hl:a.os.length=b.os.length)(hall:a.os.map eX=b.os.map eX) :
  Calls prog 15 #[.agg (eU a),.agg (eU b)] w (fJ (decide (a.os.map eX=b.os.map eX)) w):=by
 have Rs:=aA hall;clear hall;have HI:=aA (NZ.new h h2);have hA:=aA (sV ha.len);have hBm:=aA (sV hb.len);have c0:((w.alloc (.cells (eU a) 28)).alloc (.cells (eU b) 28)).cell? ⟨w.heap.size,0,none⟩=some (.int .i64 a.w):=HI.out.sa.c0;have c1:((w.alloc (.cells (eU a) 28)).alloc (.cells (eU b) 28)).cell? ⟨w.heap.size,1,none⟩=some (.int .i64 a.h):=HI.out.sa.c1;have d0:((w.alloc (.cells (eU a) 28)).alloc (.cells (eU b) 28)).cell? ⟨w.heap.size+1,0,none⟩=some (.int .i64 b.w):=HI.out.sb.c0;have d1:((w.alloc (.cells (eU a) 28)).alloc (.cells (eU b) 28)).cell? ⟨w.heap.size+1,1,none⟩=some (.int .i64 b.h):=HI.out.sb.c1;have c18:((w.alloc (.cells (eU a) 28)).alloc (.cells (eU b) 28)).cell? ⟨w.heap.size,18,none⟩=some (.slice a.oo a.os.length a.oc):=HI.out.sa.c18 ha;have Ii:((w.alloc (.cells (eU a) 28)).alloc (.cells (eU b) 28)).cell? ⟨w.heap.size+1,18,none⟩=some (.slice b.oo b.os.length b.oc):=HI.out.sb.c18 hb;obtain ⟨V0,jR⟩:∃V,((w.alloc (.cells (eU a) 28)).alloc (.cells (eU b) 28))=V:=⟨_,rfl⟩;rw[jR] at HI c0 c1 d0 d1 c18 Ii;have oJ:=aA jR;clear jR;have hne:∀W,(binOp .neq 25 (.agg (a.jN.map encI).toArray) (.agg (b.jN.map encI).toArray)).run prog W=.ok (.bool false) W:=fun W=>by rw[EB W _ _ ha.len hb.len];simp[h4]
 have HWA:=aA ha;have HWB:=aA hb;have Hn:=aA hl;have la:=hb.cap.1;rw[h1] at c0;rw[h3] at c1;rw[hl] at c18;obtain ⟨n,hn⟩:∃n,b.os.length=n:=⟨_,rfl⟩;have HN:=aA hn;rw[hn] at c18 Ii la;have n0:(0:Int)≤(n:Int):=by omega
 have n3:(n:Int)≤9223372036854775807:=by omega
 clear ha hb h h2 h1 h3 h4 hl hn la;generalize b.w=bw at c0 d0;generalize b.h=bh at c1 d1;go_enter func15,ntmps15;go_wp2_with (first|(rw[oJ.out])|(first|(refine eO rfl 25 (.tmp 23) rfl w.heap.size 2 rfl (a.jN.map encI) _ HI.out.sa.jN aU rfl hA.out ?_)|(refine eO rfl 25 (.tmp 25) rfl (w.heap.size+1) 2 rfl (b.jN.map encI) _ HI.out.sb.jN aU rfl hBm.out ?_)))
 go_loopg[5,6,7,8,9] n (ZsRel a b w n)
 case atStart=>exact ⟨0,rfl,rfl,by omega,HI.out,rfl⟩
 case round =>
  clear HI c0 c1 d0 d1 c18 Ii hne hA hBm oJ;obtain ⟨k,hg,rfl,hk,GK,ht⟩:=hrel;subst hg;have HW:=aA GK;have HT:=aA ht;have k0:(0:Int)≤(k:Int):=by omega
  have c18:wr.cell? ⟨w.heap.size,18,none⟩=some (.slice a.oo n a.oc):=by rw[GK.sa.c18 HWA.out,Hn.out,HN.out]
  have Ii:∀W,NZ a b w W→W.cell? ⟨w.heap.size+1,18,none⟩=some (.slice b.oo n b.oc):=fun W hw=>by rw[hw.sb.c18 HWB.out,HN.out]
  clear ht;by_cases pK:k<n
  ·have t1:(k:Int)<(n:Int):=by omega
   obtain ⟨x,hx⟩:∃x,a.os[k]?=some x:=⟨_,aF (by have:=Hn.out;have:=HN.out;omega)⟩;obtain ⟨y,hy⟩:∃y,b.os[k]?=some y:=⟨_,aF (by rw[HN.out];exact pK)⟩;obtain ⟨b1,f1,e1,q1⟩:=GK.oa k x hx;obtain ⟨b2,f2,e2,q2⟩:=GK.ob k y hy;have HX:=aA (show (a.os.map eX)[k]?=some (eX x) by simp[hx]);have HY:=aA (show (b.os.map eX)[k]?=some (eX y) by simp[hy]);have HEQ:Hid (eX x=eX y):=aA (by have h:=HX.out;rw[Rs.out,HY.out] at h;exact (bK h).symm);have Q1:=aA q1;have Q2:=aA q2;rw[e1] at c18;rw[e2] at Ii;clear hx hy q1 q2 e1 e2;obtain ⟨X1,hX1⟩:∃V,wr.alloc (.cells #[.int .i64 0,.int .i64 0,.int .i64 0,.int .i64 0,.int .i64 0,.int .i64 0,.int .i64 0,.int .i64 0,.int .i64 0,.int .i64 0,.int .i64 0,.int .i64 0,.int .i64 0,.int .i64 0,.int .i64 0,.int .i64 0,.int .i64 0,.slice none 0 0,.slice none 0 0] 73)=V:=⟨_,rfl⟩;have r1:dI 73 wr.heap.size #[.int .i64 0,.int .i64 0,.int .i64 0,.int .i64 0,.int .i64 0,.int .i64 0,.int .i64 0,.int .i64 0,.int .i64 0,.int .i64 0,.int .i64 0,.int .i64 0,.int .i64 0,.int .i64 0,.int .i64 0,.int .i64 0,.int .i64 0,.slice none 0 0,.slice none 0 0] X1:=by rw[←hX1];exact dI.new _ _ _
   obtain ⟨X2,hX2⟩:∃V,X1.setRow wr.heap.size (dP x).toArray=V:=⟨_,rfl⟩;have r2:dI 73 wr.heap.size (dP x).toArray X2:=by rw[←hX2];exact r1.row _
   have hb2:Below wr.heap.size wr X2:=by rw[←hX2,←hX1];exact Below.row ((aJ _ wr).alloc (aB _) _) (aB _) _
   have QR:=aA (Q2.out.below hb2).cells;have d18b:=Ii X2 (GK.up hb2);obtain ⟨X3,hX3⟩:∃V,X2.alloc (.cells #[.int .i64 0,.int .i64 0,.int .i64 0,.int .i64 0,.int .i64 0,.int .i64 0,.int .i64 0,.int .i64 0,.int .i64 0,.int .i64 0,.int .i64 0,.int .i64 0,.int .i64 0,.int .i64 0,.int .i64 0,.int .i64 0,.int .i64 0,.slice none 0 0,.slice none 0 0] 73)=V:=⟨_,rfl⟩;have r3:dI 73 X2.heap.size #[.int .i64 0,.int .i64 0,.int .i64 0,.int .i64 0,.int .i64 0,.int .i64 0,.int .i64 0,.int .i64 0,.int .i64 0,.int .i64 0,.int .i64 0,.int .i64 0,.int .i64 0,.int .i64 0,.int .i64 0,.int .i64 0,.int .i64 0,.slice none 0 0,.slice none 0 0] X3:=by rw[←hX3];exact dI.new _ _ _
   obtain ⟨X4,Wx⟩:∃V,X3.setRow X2.heap.size (dP y).toArray=V:=⟨_,rfl⟩;have r4:dI 73 X2.heap.size (dP y).toArray X4:=by rw[←Wx];exact r3.row _
   have hb4:Below X2.heap.size X2 X4:=by rw[←Wx,←hX3];exact Below.row ((aJ _ X2).alloc (aB _) _) (aB _) _
   have Wv:=dN hb2 hb4;have U1:=Q1.out.below Wv;have U2:=Q2.out.below Wv;have hz:Xw a b x y wr.heap.size X2.heap.size w X4:=⟨GK.up Wv,⟨r2.below hb4,U1.wf⟩,⟨r4,U2.wf⟩,U1.sT,U2.sT,U1.zM,U2.zM⟩;have HZ:=aA hz;have z0:X4.cell? ⟨wr.heap.size,0,none⟩=some (.int .i64 x.id):=hz.a.c0;have y0:X4.cell? ⟨X2.heap.size,0,none⟩=some (.int .i64 y.id):=hz.b.c0;have z17:X4.cell? ⟨wr.heap.size,17,none⟩=some (.slice x.vo x.vs.length x.vc):=hz.a.c17;have y17:X4.cell? ⟨X2.heap.size,17,none⟩=some (.slice y.vo y.vs.length y.vc):=hz.b.c17;have Zf:X4.cell? ⟨wr.heap.size,18,none⟩=some (.slice x.tq x.ts.length x.tc):=hz.a.c18;have y18:X4.cell? ⟨X2.heap.size,18,none⟩=some (.slice y.tq y.ts.length y.tc):=hz.b.c18;have PE:=aA hz.a.GJ;have qm:=aA hz.b.GJ;have hA:=aA (VR U1.wf);have hBm:=aA (VR U2.wf);have vQ:=aA (tH U1.wf);have nT:=aA (tH U2.wf);have EL:=aA (show (prog.info? 73).map (·.size)=some (dP x).toArray.size by rw[aL];exact tH U1.wf);have Ie:=aA (show (prog.info? 73).map (·.size)=some (dP y).toArray.size by rw[aL];exact tH U2.wf);have s1:=aA (show 19=(dP x).toArray.size by rw[aL];exact (dX U1.wf).symm);have s2:=aA (show 19=(dP y).toArray.size by rw[aL];exact (dX U2.wf).symm);have M1:=aA r1;have M3:=aA r3;have R1:=aA Q1.out.cells;have nu:=aA hX1;have Sv:=aA hX2;have nk:=aA hX3;have HX4:=aA Wx;have Hm:=aA U1.wf.len;have HLY:=aA U2.wf.len;have Tb:=aA (fun (e:eX x≠eX y)=>takne HX.out HY.out e);have sQ:=Tb;clear r1 r2 r3 r4 hb2 hb4 Wv U1 U2 hX1 hX2 hX3 Wx hz GK Ii;go_wp2_with (first|(with_reducible refine dQ (some 56) rfl ?_)|(first|(rw[nu.out])|(rw[Sv.out])|(rw[nk.out])|(rw[HX4.out])|(with_reducible refine dQ (some 49) rfl ?_;refine aA ?_;refine wpList_load_mid rfl 73 (.tmp 48) rfl b1 (f1+k*19) rfl (dP x) _ R1.out bW rfl vQ.out ?_)|(refine dG rfl 73 (.tmp 6) (.tmp 49) rfl wr.heap.size _ _ (dP x).toArray rfl rfl M1.out EL.out s1.out (uV _) ?_)|(with_reducible refine dQ (some 54) rfl ?_;refine aA ?_;refine wpList_load_mid rfl 73 (.tmp 53) rfl b2 (f2+k*19) rfl (dP y) _ QR.out bW rfl nT.out ?_)|(refine dG rfl 73 (.tmp 7) (.tmp 54) rfl X2.heap.size _ _ (dP y).toArray rfl rfl M3.out Ie.out s2.out (uV _) ?_)))
   clear nu Sv nk HX4 M1 M3 R1 QR Q1 Q2 vQ nT EL Ie s1 s2 c18 d18b;have Hg:=HZ.out.s;clear Hg;by_cases g1:x.id=y.id
   ·by_cases g2:x.m=y.m
    ·have hne:∀W,(binOp .neq 25 (.agg (x.m.map encI).toArray) (.agg (y.m.map encI).toArray)).run prog W=.ok (.bool false) W:=fun W=>by rw[EB W _ _ Hm.out HLY.out];simp[g2]
     by_cases g3:x.vs.length=y.vs.length
     ·by_cases g4:x.ts.length=y.ts.length
      ·obtain ⟨p,hp⟩:∃p,y.vs.length=p:=⟨_,rfl⟩
       obtain ⟨q,hq⟩:∃q,y.ts.length=q:=⟨_,rfl⟩;have HP1:=aA (g3.trans hp);have HP2:=aA hp;have qd:=aA (g4.trans hq);have HQ2:=aA hq;have hpc:=HZ.out.b.wf.LJ.1;have hqc:=HZ.out.b.wf.ID.1;rw[hp] at hpc;rw[hq] at hqc;rw[g3,hp] at z17;rw[hp] at y17;rw[g4,hq] at Zf;rw[hq] at y18;have HKE:=aA (fun (e1:x.vs=y.vs) (e2:x.ts=y.ts)=>Jv HX.out HY.out HT.out (show eX x=eX y by unfold eX;rw[g1,g2,e1,e2]));rw[g1] at z0;have p0:(0:Int)≤(p:Int):=by omega
       have p3:(p:Int)≤9223372036854775807:=by omega
       have q0:(0:Int)≤(q:Int):=by omega
       have q3:(q:Int)≤9223372036854775807:=by omega
       clear g1 g2 g3 g4 hp hq hpc hqc Tb;generalize y.id=yi at z0 y0;refine aA ?_;go_wp2_with (first|(with_reducible refine dQ (some 62) rfl ?_;refine aA ?_;refine eO rfl 25 (.tmp 61) rfl wr.heap.size 1 rfl (x.m.map encI) _ PE.out aU rfl hA.out ?_)|(with_reducible refine dQ (some 64) rfl ?_;refine aA ?_;refine eO rfl 25 (.tmp 63) rfl X2.heap.size 1 rfl (y.m.map encI) _ qm.out aU rfl hBm.out ?_))
       clear PE qm hA hBm hne z0 y0 z17 y17 Zf y18 HT;obtain ⟨m1,sW⟩:∃m,wr.heap.size=m:=⟨_,rfl⟩;obtain ⟨m2,lL⟩:∃m,X2.heap.size=m:=⟨_,rfl⟩;rw[sW,lL] at HZ ⊢;clear sW lL;go_loopg[8] p (kr a b x y m1 m2 x.vs y.vs w p)
       case atStart=>exact ⟨0,rfl,rfl,by omega,HZ.out,rfl⟩
       case round =>
        clear HZ;obtain ⟨j,hg,rfl,hj,hz,htj⟩:=hrel;subst hg;have HZ:=aA hz;have HTJ:=aA htj;have j0:(0:Int)≤(j:Int):=by omega
        have z17:wr.cell? ⟨m1,17,none⟩=some (.slice x.vo p x.vc):=by rw[hz.a.c17,HP1.out]
        clear hz htj;by_cases hjp:j<p
        ·have t2:(j:Int)<(p:Int):=by omega
         obtain ⟨u,hu⟩:∃u,x.vs[j]?=some u:=⟨_,aF (by have:=HP1.out;omega)⟩;obtain ⟨v,hv⟩:∃v,y.vs[j]?=some v:=⟨_,aF (by have:=HP2.out;omega)⟩;obtain ⟨b1,f1,e1,_,wu⟩:=HZ.out.va j u hu;obtain ⟨b2,f2,e2,_,wv⟩:=HZ.out.vb j v hv;have RU:Hid (∀W,fH W x.vo x.vs→W.rangeAt b1 (f1+j*3) (u.map encI)):=aA (fun W h=>by
          obtain ⟨b1',f1',Pe,r',_⟩:=h j u hu;rw[e1] at Pe
          cases Pe;exact r')
         have RV:Hid (∀W,fH W y.vo y.vs→W.rangeAt b2 (f2+j*3) (v.map encI)):=aA (fun W h=>by
          obtain ⟨b1',f1',Pe,r',_⟩:=h j v hv;rw[e2] at Pe
          cases Pe;exact r')
         have vQ:=aA (show (prog.info? 85).map (·.size)=some (u.map encI).length from (by rw[aT,wu.len];kernel_rfl));have nT:=aA (show (prog.info? 85).map (·.size)=some (v.map encI).length from (by rw[aT,wv.len];kernel_rfl));have E1:=aA e1;have E2:=aA e2;rw[e1] at z17;clear e1 e2;by_cases Vv:u=v
         ·have HS:=aA (Jv hu hv HTJ.out Vv)
          have hneq:∀W,(binOp .neq 85 (.agg (u.map encI).toArray) (.agg (v.map encI).toArray)).run prog W=.ok (.bool false) W:=fun W=>by rw[zw W u v wu.len wv.len];simp[Vv]
          clear hu hv wu wv Vv;go_wp2_with fail;generalize wr=V at HZ ⊢;rename_i K5 Aw;refine (bN (n:=5)).1 (eA (S:=fun X=>Xw a b x y m1 m2 w X) (Z:=[]) (by kernel_rfl) (by kernel_rfl) (fun _ _ h hb=>Xw.up h hb) (fun d _ _ _ _ h=>by cases d <;> exact h) (HZ.out.up (eM _ _ 1)) (fun hG rA hw0=>?_));refine dF [] 0 (?_) hG rfl (by kernel_rfl) hw0 (by kernel_rfl) ?_ ?_;rotate_left
          ·intro wz hSw;first|(go_simp;done)|(go_simp;with_reducible rfl)
          intro qZ kS;clear hw0 rA;try simp only[aQ]
          refine dF [] 1 (.slice (some ⟨b1,f1,none⟩) p x.vc) hG rfl (by kernel_rfl) kS (by kernel_rfl) ?_ ?_
          ·intro wz hSw;have c:=hSw.a.c17;rw[E1.out,HP1.out] at c;(first|(go_simp;done)|(go_simp;with_reducible rfl))
          intro qY hw2;clear kS qZ;try simp only[aQ]
          refine dF [] 2 (?_) hG rfl (by kernel_rfl) hw2 (by kernel_rfl) ?_ ?_;rotate_left
          ·intro wz hSw;first|(go_simp;done)|(go_simp;with_reducible rfl)
          intro qX hw3;clear hw2 qY;try simp only[aQ]
          refine dF [] 3 (.pointer (some ⟨b1,f1+j*3,none⟩)) hG rfl (by kernel_rfl) hw3 (by kernel_rfl) ?_ ?_
          ·intro wz hSw;first|(go_simp;done)|(go_simp;with_reducible rfl)
          intro qW hw4;clear hw3 qX;try simp only[aQ]
          refine dF [] 4 (.agg (u.map encI).toArray) hG rfl (by kernel_rfl) hw4 (by kernel_rfl) ?_ ?_
          ·intro wz hSw;exact gS 85 (.tmp 95) (by kernel_rfl) b1 (f1+j*3) (by kernel_rfl) (u.map encI) _ (RU.out _ hSw.va) cU (by kernel_rfl) vQ.out
          intro qV lB;clear hw4 qW;try simp only[aQ]
          refine dF [] 5 (?_) hG rfl (by kernel_rfl) lB (by kernel_rfl) ?_ ?_;rotate_left
          ·intro wz hSw;first|(go_simp;done)|(go_simp;with_reducible rfl)
          intro qU kA;clear lB qV;try simp only[aQ]
          refine dF [] 6 (.slice (some ⟨b2,f2,none⟩) p y.vc) hG rfl (by kernel_rfl) kA (by kernel_rfl) ?_ ?_
          ·intro wz hSw;have c:=hSw.b.c17;rw[E2.out,HP2.out] at c;(first|(go_simp;done)|(go_simp;with_reducible rfl))
          intro qC kP;clear kA qU;try simp only[aQ]
          refine dF [] 7 (?_) hG rfl (by kernel_rfl) kP (by kernel_rfl) ?_ ?_;rotate_left
          ·intro wz hSw;first|(go_simp;done)|(go_simp;with_reducible rfl)
          intro sF kH;clear kP qC;try simp only[aQ]
          refine dF [] 8 (.pointer (some ⟨b2,f2+j*3,none⟩)) hG rfl (by kernel_rfl) kH (by kernel_rfl) ?_ ?_
          ·intro wz hSw;first|(go_simp;done)|(go_simp;with_reducible rfl)
          intro sD lI;clear kH sF;try simp only[aQ]
          refine dF [] 9 (.agg (v.map encI).toArray) hG rfl (by kernel_rfl) lI (by kernel_rfl) ?_ ?_
          ·intro wz hSw;exact gS 85 (.tmp 100) (by kernel_rfl) b2 (f2+j*3) (by kernel_rfl) (v.map encI) _ (RV.out _ hSw.vb) cU (by kernel_rfl) nT.out
          intro jG gH;clear lI sD;try simp only[aQ]
          refine dF [] 10 (.bool false) hG rfl (by kernel_rfl) gH (by kernel_rfl) ?_ ?_
          ·intro wz hSw;first|(go_simp;done)|(go_simp;with_reducible rfl)
          intro kL gQ;clear gH jG;try simp only[aQ]
          refine eK (by kernel_rfl) (?_) _;refine Aw _ _ ?_;have HZ2:=aA gQ;clear gQ hG HZ Aw;go_wp2_with fail;go_roundg (p-(j+1))
          case measure=>omega
          case rel=>exact ⟨j+1,rfl,by go_num,by omega,HZ2.out,HS.out⟩
         ·exact absurd HEQ.out (fun e=>Vv (by have h:=congrArg (fun z=>z.2.2.1) e;rw[show x.vs=y.vs from h,hv] at hu;exact (bK hu).symm))
        ·obtain rfl:j=p:=by omega
         have t2:¬ (j:Int)<(j:Int):=by omega
         have HV:Hid (x.vs=y.vs):=aA (by have h:=HTJ.out;rw[bB (by rw[HP1.out];omega),bB (by rw[HP2.out];omega)] at h;exact h);clear HTJ;go_wp2_with fail;clear z17;go_loopg[9] q (kr a b x y m1 m2 x.ts y.ts w q)
         case atStart=>exact ⟨0,rfl,rfl,by omega,HZ.out,rfl⟩
         case round =>
          clear HZ;obtain ⟨i,hg,rfl,hi,hz,hti⟩:=hrel;subst hg;have HZ:=aA hz;have HTJ:=aA hti;have i0:(0:Int)≤(i:Int):=by omega
          have Zf:wr.cell? ⟨m1,18,none⟩=some (.slice x.tq q x.tc):=by rw[hz.a.c18,qd.out]
          clear hz hti;by_cases Nj:i<q
          ·have t3:(i:Int)<(q:Int):=by omega
           obtain ⟨u,hu⟩:∃u,x.ts[i]?=some u:=⟨_,aF (by have:=qd.out;omega)⟩;obtain ⟨v,hv⟩:∃v,y.ts[i]?=some v:=⟨_,aF (by have:=HQ2.out;omega)⟩;obtain ⟨b1,f1,e1,_,wu⟩:=HZ.out.ta i u hu;obtain ⟨b2,f2,e2,_,wv⟩:=HZ.out.tb i v hv;have RU:Hid (∀W,gM W x.tq x.ts→W.rangeAt b1 (f1+i*4) (fC u)):=aA (fun W h=>by
            obtain ⟨b1',f1',Pe,r',_⟩:=h i u hu;rw[e1] at Pe
            cases Pe;exact r')
           have RV:Hid (∀W,gM W y.tq y.ts→W.rangeAt b2 (f2+i*4) (fC v)):=aA (fun W h=>by
            obtain ⟨b1',f1',Pe,r',_⟩:=h i v hv;rw[e2] at Pe
            cases Pe;exact r')
           have vQ:=aA (show (prog.info? 87).map (·.size)=some (fC u).length by kernel_rfl);have nT:=aA (show (prog.info? 87).map (·.size)=some (fC v).length by kernel_rfl);have E1:=aA e1;have E2:=aA e2;rw[e1] at Zf;clear e1 e2;by_cases Vv:u=v
           ·have HS:=aA (Jv hu hv HTJ.out Vv)
            have hneq:∀W,(binOp .neq 87 (.agg (fC u).toArray) (.agg (fC v).toArray)).run prog W=.ok (.bool false) W:=fun W=>by rw[Ve W u v];simp[Vv]
            clear hu hv wu wv Vv;go_wp2_with fail;generalize wr=V at HZ ⊢;rename_i K5 Aw;refine (bN (n:=5)).1 (eA (S:=fun X=>Xw a b x y m1 m2 w X) (Z:=[]) (by kernel_rfl) (by kernel_rfl) (fun _ _ h hb=>Xw.up h hb) (fun d _ _ _ _ h=>by cases d <;> exact h) (HZ.out.up (eM _ _ 1)) (fun hG rA hw0=>?_));refine dF [] 0 (?_) hG rfl (by kernel_rfl) hw0 (by kernel_rfl) ?_ ?_;rotate_left
            ·intro wz hSw;first|(go_simp;done)|(go_simp;with_reducible rfl)
            intro qZ kS;clear hw0 rA;try simp only[aQ]
            refine dF [] 1 (.slice (some ⟨b1,f1,none⟩) q x.tc) hG rfl (by kernel_rfl) kS (by kernel_rfl) ?_ ?_
            ·intro wz hSw;have c:=hSw.a.c18;rw[E1.out,qd.out] at c;(first|(go_simp;done)|(go_simp;with_reducible rfl))
            intro qY hw2;clear kS qZ;try simp only[aQ]
            refine dF [] 2 (?_) hG rfl (by kernel_rfl) hw2 (by kernel_rfl) ?_ ?_;rotate_left
            ·intro wz hSw;first|(go_simp;done)|(go_simp;with_reducible rfl)
            intro qX hw3;clear hw2 qY;try simp only[aQ]
            refine dF [] 3 (.pointer (some ⟨b1,f1+i*4,none⟩)) hG rfl (by kernel_rfl) hw3 (by kernel_rfl) ?_ ?_
            ·intro wz hSw;first|(go_simp;done)|(go_simp;with_reducible rfl)
            intro qW hw4;clear hw3 qX;try simp only[aQ]
            refine dF [] 4 (.agg (fC u).toArray) hG rfl (by kernel_rfl) hw4 (by kernel_rfl) ?_ ?_
            ·intro wz hSw;exact gS 87 (.tmp 113) (by kernel_rfl) b1 (f1+i*4) (by kernel_rfl) (fC u) _ (RU.out _ hSw.ta) cR (by kernel_rfl) vQ.out
            intro qV lB;clear hw4 qW;try simp only[aQ]
            refine dF [] 5 (?_) hG rfl (by kernel_rfl) lB (by kernel_rfl) ?_ ?_;rotate_left
            ·intro wz hSw;first|(go_simp;done)|(go_simp;with_reducible rfl)
            intro qU kA;clear lB qV;try simp only[aQ]
            refine dF [] 6 (.slice (some ⟨b2,f2,none⟩) q y.tc) hG rfl (by kernel_rfl) kA (by kernel_rfl) ?_ ?_
            ·intro wz hSw;have c:=hSw.b.c18;rw[E2.out,HQ2.out] at c;(first|(go_simp;done)|(go_simp;with_reducible rfl))
            intro qC kP;clear kA qU;try simp only[aQ]
            refine dF [] 7 (?_) hG rfl (by kernel_rfl) kP (by kernel_rfl) ?_ ?_;rotate_left
            ·intro wz hSw;first|(go_simp;done)|(go_simp;with_reducible rfl)
            intro sF kH;clear kP qC;try simp only[aQ]
            refine dF [] 8 (.pointer (some ⟨b2,f2+i*4,none⟩)) hG rfl (by kernel_rfl) kH (by kernel_rfl) ?_ ?_
            ·intro wz hSw;first|(go_simp;done)|(go_simp;with_reducible rfl)
            intro sD lI;clear kH sF;try simp only[aQ]
            refine dF [] 9 (.agg (fC v).toArray) hG rfl (by kernel_rfl) lI (by kernel_rfl) ?_ ?_
            ·intro wz hSw;exact gS 87 (.tmp 118) (by kernel_rfl) b2 (f2+i*4) (by kernel_rfl) (fC v) _ (RV.out _ hSw.tb) cR (by kernel_rfl) nT.out
            intro jG gH;clear lI sD;try simp only[aQ]
            refine dF [] 10 (.bool false) hG rfl (by kernel_rfl) gH (by kernel_rfl) ?_ ?_
            ·intro wz hSw;first|(go_simp;done)|(go_simp;with_reducible rfl)
            intro kL gQ;clear gH jG;try simp only[aQ]
            refine eK (by kernel_rfl) (?_) _;refine Aw _ _ ?_;have HZ2:=aA gQ;clear gQ hG HZ Aw;go_wp2_with fail;go_roundg (q-(i+1))
            case measure=>omega
            case rel=>exact ⟨i+1,rfl,by go_num,by omega,HZ2.out,HS.out⟩
           ·exact absurd HEQ.out (fun e=>Vv (by have h:=congrArg (fun z=>z.2.2.2) e;rw[show x.ts=y.ts from h,hv] at hu;exact (bK hu).symm))
          ·obtain rfl:i=q:=by omega
           have t3:¬ (i:Int)<(i:Int):=by omega
           have oq:Hid (x.ts=y.ts):=aA (by have h:=HTJ.out;rw[bB (by rw[qd.out];omega),bB (by rw[HQ2.out];omega)] at h;exact h);clear HTJ;go_wp2_with fail;go_roundg (n-(k+1))
           case measure=>omega
           case rel=>exact ⟨k+1,rfl,by go_num,by omega,HZ.out.s,HKE.out HV.out oq.out⟩
      ·have HR:=aA (Tb.out (fun e=>g4 (congrArg List.length (congrArg (fun z=>z.2.2.2) e))))
       rw[g1] at z0;rw[g3] at z17;have g5:¬ (x.ts.length:Int)=(y.ts.length:Int):=by omega
       clear g1 g2 g3 g4 Tb;generalize y.id=yi at z0 y0;generalize y.vs.length=yn at z17 y17;generalize y.ts.length=yt at y18 g5;generalize x.ts.length=xt at Zf g5;refine aA ?_;go_wp2_with (first|(with_reducible refine dQ (some 62) rfl ?_;refine aA ?_;refine eO rfl 25 (.tmp 61) rfl wr.heap.size 1 rfl (x.m.map encI) _ PE.out aU rfl hA.out ?_)|(with_reducible refine dQ (some 64) rfl ?_;refine aA ?_;refine eO rfl 25 (.tmp 63) rfl X2.heap.size 1 rfl (y.m.map encI) _ qm.out aU rfl hBm.out ?_))
       go_ret;exact ⟨by rw[HR.out];first|rfl|simp,HZ.out.s.gL⟩
     ·have HR:=aA (Tb.out (fun e=>g3 (congrArg List.length (congrArg (fun z=>z.2.2.1) e))))
      rw[g1] at z0;have g5:¬ (x.vs.length:Int)=(y.vs.length:Int):=by omega
      clear g1 g2 g3 Zf y18 Tb;generalize y.id=yi at z0 y0;generalize y.vs.length=yn at y17 g5;generalize x.vs.length=xn at z17 g5;refine aA ?_;go_wp2_with (first|(with_reducible refine dQ (some 62) rfl ?_;refine aA ?_;refine eO rfl 25 (.tmp 61) rfl wr.heap.size 1 rfl (x.m.map encI) _ PE.out aU rfl hA.out ?_)|(with_reducible refine dQ (some 64) rfl ?_;refine aA ?_;refine eO rfl 25 (.tmp 63) rfl X2.heap.size 1 rfl (y.m.map encI) _ qm.out aU rfl hBm.out ?_))
      go_ret;exact ⟨by rw[HR.out];first|rfl|simp,HZ.out.s.gL⟩
    ·have hne:∀W,(binOp .neq 25 (.agg (x.m.map encI).toArray) (.agg (y.m.map encI).toArray)).run prog W=.ok (.bool true) W:=fun W=>by rw[EB W _ _ Hm.out HLY.out];simp[g2]
     have HR:=aA (Tb.out (fun e=>g2 (congrArg (fun z=>z.2.1) e)));rw[g1] at z0;clear g1 g2 z17 y17 Zf y18 Tb;generalize y.id=yi at z0 y0;refine aA ?_;go_wp2_with (first|(with_reducible refine dQ (some 62) rfl ?_;refine aA ?_;refine eO rfl 25 (.tmp 61) rfl wr.heap.size 1 rfl (x.m.map encI) _ PE.out aU rfl hA.out ?_)|(with_reducible refine dQ (some 64) rfl ?_;refine aA ?_;refine eO rfl 25 (.tmp 63) rfl X2.heap.size 1 rfl (y.m.map encI) _ qm.out aU rfl hBm.out ?_))
     go_ret;exact ⟨by rw[HR.out];first|rfl|simp,HZ.out.s.gL⟩
   ·have HR:=aA (Tb.out (fun e=>g1 (congrArg (fun z=>z.1) e)))
    clear z17 y17 Zf y18 Tb;generalize y.id=yi at y0 g1;generalize x.id=xi at z0 g1;refine aA ?_;go_wp2_with (first|(with_reducible refine dQ (some 62) rfl ?_;refine aA ?_;refine eO rfl 25 (.tmp 61) rfl wr.heap.size 1 rfl (x.m.map encI) _ PE.out aU rfl hA.out ?_)|(with_reducible refine dQ (some 64) rfl ?_;refine aA ?_;refine eO rfl 25 (.tmp 63) rfl X2.heap.size 1 rfl (y.m.map encI) _ qm.out aU rfl hBm.out ?_))
    go_ret;exact ⟨by rw[HR.out];first|rfl|simp,HZ.out.s.gL⟩
  ·obtain rfl:k=n:=by omega
   have t1:¬ (k:Int)<(k:Int):=by omega
   have HR:=aA (vv (a:=a.os.map eX) (b:=b.os.map eX) (by rw[aT];exact Hn.out.trans HN.out) (by rw[aT];exact HN.out) HT.out);clear GK Ii;go_wp2_with fail;go_ret;exact ⟨by rw[HR.out];first|rfl|simp,HW.out.gL⟩
section
variable {α:Type} {t:TypeId} {n:Nat} {f:α→List Value}
def fK (t:TypeId)(n:Nat)(f:α→List Value)(W:World)(B:Nat)(v:Value)(l:List α):Prop:=W.ownsRow B t n v l.length (l.flatMap f)
theorem fK.below {w W:World}{B:Nat}{v:Value}{l:List α}(h:Below w.heap.size w W)(s:fK t n f w B v l):fK t n f W B v l:=by
 obtain ⟨h1,h2⟩:=s;refine ⟨h1,?_⟩
 rcases h2 with h2|⟨g,cap,cur,e,hb,hg,h3⟩
 ·exact Or.inl h2
 ·exact Or.inr ⟨g,cap,cur,e,hb,dL h hg,h3⟩
theorem fK.kept {B C:Nat}{v:Value}{l:List α}{W X:World}(s:fK t n f W C v l)(k:Kept B W X):fK t n f X C v l:=by
 obtain ⟨h1,h2⟩:=s;refine ⟨h1,?_⟩
 rcases h2 with h2|⟨g,cap,cur,e,hb,hg,h3⟩
 ·exact .inl h2
 ·exact .inr ⟨g,cap,cur,e,hb,k.cells hg,h3⟩
theorem fK.blk {w:World}{B:Nat}{v:Value}{l:List α}(s:fK t n f w B v l):∀k,v.ownBlock=some k→B≤k:=by
 intro k hk;obtain ⟨h1,h2⟩:=s
 rcases h2 with ⟨rfl,_⟩|⟨g,cap,cur,rfl,hb,_⟩
 ·cases hk
 ·cases hk
  exact hb
theorem fK.lt {w:World}{B:Nat}{v:Value}{l:List α}(s:fK t n f w B v l):∀k,v.ownBlock=some k→k<w.heap.size:=by
 intro k hk;obtain ⟨h1,h2⟩:=s
 rcases h2 with ⟨rfl,_⟩|⟨g,cap,cur,rfl,hb,hg,_⟩
 ·cases hk
 ·cases hk
  exact (aC.1 hg).1
theorem fK.row {w:World}{B:Nat}{v:Value}{l:List α}(s:fK t n f w B v l):∀k,v.ownBlock=some k→∃cur,w.heap[k]?=some (.cells cur t (0,0)):=by
 intro k hk;obtain ⟨h1,h2⟩:=s
 rcases h2 with ⟨rfl,_⟩|⟨g,cap,cur,rfl,hb,hg,_⟩
 ·cases hk
 ·cases hk
  exact ⟨cur,hg⟩
theorem fK.base {w:World}{B C:Nat}{v:Value}{l:List α}(hc:C≤B)(s:fK t n f w B v l):fK t n f w C v l:=by
 obtain ⟨h1,h2⟩:=s;refine ⟨h1,?_⟩
 rcases h2 with h2|⟨g,cap,cur,e,hb,hg,h3⟩
 ·exact Or.inl h2
 ·exact Or.inr ⟨g,cap,cur,e,bH hc hb,hg,h3⟩
theorem fK.kU {B m j:Nat}{v u:Value}{l:List α}{W:World}(s:fK t n f W B v l)(hm:v.ownBlock≠some m):fK t n f (W.setCell ⟨m,j,none⟩ u) B v l:=by
 obtain ⟨h1,h2⟩:=s;refine ⟨h1,?_⟩
 rcases h2 with h2|⟨g,cap,cur,e,hb,hg,h3⟩
 ·exact .inl h2
 ·subst e
  exact .inr ⟨g,cap,cur,rfl,hb,by rw[aK _ _ _ _ (by intro e;exact hm (by show some g=some m;rw[show g=m from e]))];exact hg,h3⟩
theorem fK.grown {B:Nat}{v:Value}{l:List α}{W X:World}{row:Option Nat}(s:fK t n f W B v l)(hg:W.grownBy X row)(hr:∀k,row=some k→v.ownBlock≠some k):fK t n f X B v l:=by
 obtain ⟨h1,h2⟩:=s;refine ⟨h1,?_⟩
 rcases h2 with h2|⟨g,cap,cur,e,hb,je,h3⟩
 ·exact .inl h2
 ·subst e
  exact .inr ⟨g,cap,cur,rfl,hb,by rw[hg.block g (aC.1 je).1 (fun e=>hr g e.symm rfl)];exact je,h3⟩
theorem fK.nil (t:TypeId)(n:Nat)(f:α→List Value)(W:World)(B:Nat):fK t n f W B (.slice none 0 0) []:=⟨by simp,.inl ⟨rfl,rfl⟩⟩
theorem TG {l:List α}(hl:∀x∈l,(f x).length=n):∀ {k:Nat} {x:α},l[k]?=some x→∀j v,(f x)[j]?=some v→(l.flatMap f)[k*n+j]?=some v:=by
 induction l with
 | nil=>intro k x h;simp at h
 | cons y tl ih =>
  intro k x h j v hv;have hy:=hl y (by simp);rw[List.flatMap_cons]
  cases k with
  | zero =>
   simp at h;subst h;rw[Nat.zero_mul,bE,cX (aY.1 hv).1];exact hv
  | succ k =>
   have hk:(k+1)*n+j-n=k*n+j:=by rw[Nat.add_mul];omega
   rw[List.getElem?_append_right (by rw[hy,Nat.add_mul];omega),hy,hk];exact ih (fun z hz=>hl z (by simp[hz])) (by simpa using h) j v hv
theorem KQ {l:List α}(hl:∀x∈l,(f x).length=n):(l.flatMap f).length=l.length*n:=by
 induction l with
 | nil=>simp
 | cons y tl ih =>
  rw[List.flatMap_cons,aI,hl y (by simp),ih (fun z hz=>hl z (by simp[hz])),bO,Nat.add_mul];omega
structure iX (t:TypeId)(n:Nat)(f:α→List Value)(W:World)(B:Nat)(o:Option Addr)(l:List α):Prop where
 at_:∀k z,l[k]?=some z→∃g cur,o=some ⟨g,0,none⟩∧B≤g∧W.heap[g]?=some (.cells cur t (0,0))∧l.length*n≤cur.size∧W.rangeAt g (0+k*n) (f z)
theorem fK.form {W:World}{B:Nat}{v:Value}{l:List α}(s:fK t n f W B v l)(hl:∀x∈l,(f x).length=n):∃o cap,v=.slice o l.length cap∧pJ o l.length cap∧iX t n f W B o l:=by
 obtain ⟨h1,h2⟩:=s
 rcases h2 with ⟨rfl,h0⟩|⟨g,cap,cur,rfl,hb,hg,hle,hm,hsz,Vw⟩
 ·refine ⟨none,0,by rw[h0],⟨⟨by omega,by omega⟩,fun _=>rfl⟩,⟨fun k z hk=>?_⟩⟩
  have:=(aY.1 hk).1;omega
 ·unfold maxLen at hm
  refine ⟨some ⟨g,0,none⟩,cap,rfl,⟨⟨hle,by omega⟩,fun h=>by cases h⟩,⟨fun k z hk=>⟨g,cur,rfl,hb,hg,by rw[hsz];exact Nat.mul_le_mul_right n hle,?_⟩⟩⟩;intro j u hj;have hf:=TG hl hk j u hj;rw[aD _ _ _ _ _ _ hg,bE];rw[←Vw,List.getElem?_take] at hf
  split at hf
  ·simpa using hf
  ·cases hf
theorem iX.list {W:World}{B:Nat}{o:Option Addr}{l:List α}(s:iX t n f W B o l):nW (fun b j z=>W.rangeAt b j (f z)) n o l:=fun k z hk=>by
 obtain ⟨g,cur,e,_,_,_,h⟩:=s.at_ k z hk;exact ⟨g,0,e,h⟩
theorem wh {W:World}{ad:Addr}{l:List α}(hn:0<n)(hs:nW (fun b j z=>W.rangeAt b j (f z)) n (some ad) l)(hl:∀x∈l,(f x).length=n):∀j u,(l.flatMap f)[j]?=some u→W.cell? (ad.add j)=some u:=by
 intro j u hj;have IJ:j<l.length*n:=by
  rw[←KQ hl];exact (aY.1 hj).1
 have hk:j/n<l.length:=(Nat.div_lt_iff_lt_mul hn).2 IJ;obtain ⟨z,hz⟩:∃z,l[j/n]?=some z:=⟨_,aF hk⟩;obtain ⟨b,off,e,hr⟩:=hs _ z hz
 cases e;have hzl:=hl z (aX hz);have hm:j%n<(f z).length:=by rw[hzl];exact cO _ hn
 have h1:=TG hl hz (j%n) _ (aF hm);have hjj:j/n*n+j%n=j:=by rw[cF];exact Nat.div_add_mod j n
 rw[hjj,hj] at h1;have h2:=hr (j%n) _ (aF hm);rw[Nat.add_assoc,hjj,←h1] at h2;rw[Addr.add_lit];exact h2
structure mP (t:TypeId)(n bytes:Nat):Prop where
 pos:0<n
 few:bytes≤1000
 get:∃i z,prog.info? t=some i∧i.zero=some z∧i.size=n∧i.bytes=bytes∧z.cells.size=n
theorem mP.of {t:TypeId}{n bytes:Nat}(hp:0<n)(hf:bytes≤1000)(hm:(prog.info? t).map (fun i=>(i.zero.map (fun z=>z.cells.size),i.size,i.bytes))=some (some n,n,bytes)):mP t n bytes:=by
 refine ⟨hp,hf,?_⟩
 cases hi:prog.info? t with
 | none=>rw[hi] at hm;cases hm
 | some i =>
  rw[hi] at hm;simp only[Option.map_some,Option.some.injEq,Prod.mk.injEq] at hm;obtain ⟨hz,hs,hb⟩:=hm
  cases hzz:i.zero with
  | none=>rw[hzz] at hz;cases hz
  | some z =>
   rw[hzz] at hz;exact ⟨i,z,rfl,hzz,hs,hb,by simpa using hz⟩
theorem Kj {bytes:Nat}(hi:mP t n bytes)(ts ty:TypeId)(hu:prog.underlying ts=some (.slice t))(W:World)(B:Nat)(v:Value)(L M:List α)(hB:B≤W.heap.size)(hown:fK t n f W B v L)(ox:Option Addr)(c:Nat)
  (hc:ox=none→c=0) (Vx:nW (fun b j z=>W.rangeAt b j (f z)) n ox M) (hlen:∀z∈M,(f z).length=n) (iM:∀z∈M,∀u∈f z,u.oneCell'=true) (hL:L.length+M.length≤1000000) :
  ∃v' X,(Builtin.append_ #[ts,ts] ty #[v,.slice ox M.length c]).run prog W=.ok v' X∧fK t n f X B v' (L++M)∧W.grownBy X v.ownBlock:=by
 obtain ⟨i,z,h2,h3,h4,h5,h6⟩:=hi.get
 cases ox with
 | none =>
  have hM:M=[]:=by
   cases M with
   | nil=>rfl
   | cons y tl =>
    obtain ⟨b,off,e,_⟩:=Vx 0 y rfl
    cases e
  subst hM;rw[hc rfl];refine ⟨v,W,run_append_owned_none (P:=prog) (w:=W) B ts ty t i n hu h2 v L.length (L.flatMap f) hown,by rw[List.append_nil];exact hown,⟨rfl,rfl,rfl,aB _,fun _ _ _=>rfl⟩⟩
 | some ad =>
  have hb:(L.length+M.length)*bytes≤1000000*1000:=Nat.mul_le_mul hL hi.few;obtain ⟨v',X,hrun,r1,r2,r3⟩:=run_append_own (P:=prog) W B ts ty t i z n bytes hu h2 h3 h4 h5 h6 hi.pos v L.length (L.flatMap f) hown ad M.length c (M.flatMap f) (KQ hlen) (wh hi.pos Vx hlen)
   (fun u hu=>by obtain ⟨z,hz,hzu⟩:=List.mem_flatMap.1 hu;exact iM z hz u hzu) (by unfold maxLen;omega) (by omega) hB
  exact ⟨v',X,hrun,by unfold fK;rw[aI,List.flatMap_append];exact r1,r2⟩
theorem pD {bytes:Nat}(hi:mP t n bytes){ops:Array Oper}{rest:List Oper}{o:Oper}{a:Act}{Q:Exit→Act→World→Prop}{W:World}(hgd:o.guard=none)(sx x:Operand)(ts:TypeId)
  (ho:o.op=.call { callee:=.builtin .append,args:=#[sx,x],argTypes:=#[ts,ts] }) (hu:prog.underlying ts=some (.slice t)) (B:Nat) (v:Value) (L M:List α) (hs:a.eval sx=v) (hB:B≤W.heap.size) (hown:fK t n f W B v L)
  (ox:Option Addr) (c:Nat) (hx:a.eval x=.slice ox M.length c) (hc:ox=none→c=0) (Vx:nW (fun b j z=>W.rangeAt b j (f z)) n ox M) (hlen:∀z∈M,(f z).length=n) (iM:∀z∈M,∀u∈f z,u.oneCell'=true) (hL:L.length+M.length≤1000000)
  (h:∀v' X,fK t n f X B v' (L++M)→W.grownBy X v.ownBlock→Hid (wpList prog ops Q rest (a.put o.dst v') X)) :
  wpList prog ops Q (o::rest) a W:=by
 obtain ⟨v',X,hrun,r1,r2⟩:=Kj hi ts o.type hu W B v L M hB hown ox c hc Vx hlen iM hL;refine wpList_plain hgd fun K hK'=>?_
 unfold Oper.wp;simp[execOp,ho,resolve,invoke,builtin,hs,hx,hrun,Result.andThen];exact hK' _ _ (h v' X r1 r2).out
theorem kE {W:World}{g:Nat}{z:α}(h:W.heap[g]?=some (.cells (f z).toArray t (0,0))):nW (fun b j z=>W.rangeAt b j (f z)) n (some ⟨g,0,none⟩) [z]:=fun k y hk=>by
 have h0:k=0:=by have:=(aY.1 hk).1;simp at this;omega
 subst h0;simp at hk;subst hk;refine ⟨g,0,rfl,fun j u hj=>?_⟩;rw[aD _ _ _ _ _ _ h]
 simpa using hj
theorem LY {bytes:Nat}(hi:mP t n bytes)(hm:n≤1000)(ts:TypeId)(hu:prog.underlying ts=some (.slice t))(W:World)(cs:Array Value)(hc:cs.size=n) :
  (Instr.buildSlice ts 1 #[(0,.agg cs)]).run prog W=.ok (.slice (some ⟨W.heap.size,0,none⟩) 1 1) (W.alloc (.cells cs t)):=by
 obtain ⟨i,z,h2,h3,h4,h5,h6⟩:=hi.get;refine run_buildSlice W ts t 1 _ cs i z hu h2 h3 (by rw[h4];omega) (by rw[h4];have:=hi.pos;omega) ?_;rw[h4];have:=Great.fill_whole hi.pos [.agg cs] ((Array.range (1*n)).map (z.cells[· % z.cells.size]!)) (fun v hv=>by simp at hv;subst hv;exact hc) (by simp)
 simpa[Value.cells] using this
theorem jC {bytes:Nat}(hi:mP t n bytes)(hm:n≤1000){ops:Array Oper}{rest:List Oper}{o:Oper}{a:Act}{Q:Exit→Act→World→Prop}{W:World}(hgd:o.guard=none)(x:Operand)(ts:TypeId)
  (ho:o.op=.buildSlice ts 1 #[(0,x)]) (hu:prog.underlying ts=some (.slice t)) (cs:Array Value) (hx:a.eval x=.agg cs) (hc:cs.size=n)
  (h:wpList prog ops Q rest (a.put o.dst (.slice (some ⟨W.heap.size,0,none⟩) 1 1)) (W.alloc (.cells cs t))) :
  wpList prog ops Q (o::rest) a W:=by
 have hrun:=LY hi hm ts hu W cs hc;refine wpList_plain hgd fun K hK'=>?_
 unfold Oper.wp;simp[execOp,ho,hx,hrun,Result.andThen];exact hK' _ _ h
end
theorem PQ {l:List (List Int)}(h:∀x∈l,jI x):∀x∈l,(x.map encI).length=3:=fun x hx=>by rw[aT];exact (h x hx).len
theorem xR (x:List Int):∀u∈x.map encI,u.oneCell'=true:=fun u hu=>by
 obtain ⟨z,_,rfl⟩:=List.mem_map.1 hu;rfl
theorem uR (x:gB):∀u∈fC x,u.oneCell'=true:=fun u hu=>by
 simp only[fC,List.mem_cons,List.not_mem_nil,or_false] at hu
 rcases hu with rfl|rfl|rfl|rfl <;> rfl
theorem lU (x:eE):∀u∈dP x,u.oneCell'=true:=fun v hv=>by
 simp only[dP,List.mem_cons,bS,List.mem_map,List.not_mem_nil,or_false] at hv
 rcases hv with rfl|⟨z,_,rfl⟩|rfl|rfl <;> rfl
theorem EH:mP 85 3 24:=mP.of (by omega) (by omega) (by kernel_rfl)
theorem wC:mP 87 4 32:=mP.of (by omega) (by omega) (by kernel_rfl)
theorem yH:mP 73 19 184:=mP.of (by omega) (by omega) (by kernel_rfl)
theorem fH.src {W:World}{o:Option Addr}{l:List (List Int)}(h:fH W o l):nW (fun b j z=>W.rangeAt b j (z.map encI)) 3 o l:=fun k z hk=>by
 obtain ⟨b,off,e,h1,_⟩:=h k z hk;exact ⟨b,off,e,h1⟩
theorem gM.src {W:World}{o:Option Addr}{l:List gB}(h:gM W o l):nW (fun b j z=>W.rangeAt b j (fC z)) 4 o l:=fun k z hk=>by
 obtain ⟨b,off,e,h1,_⟩:=h k z hk;exact ⟨b,off,e,h1⟩
theorem fH.wf {W:World}{o:Option Addr}{l:List (List Int)}(h:fH W o l):∀x∈l,jI x:=fun x hx=>by
 obtain ⟨k,hk⟩:=List.getElem?_of_mem hx;obtain ⟨_,_,_,_,hw⟩:=h k x hk;exact hw
theorem gM.wf {W:World}{o:Option Addr}{l:List gB}(h:gM W o l):∀x∈l,mN x:=fun x hx=>by
 obtain ⟨k,hk⟩:=List.getElem?_of_mem hx;obtain ⟨_,_,_,_,hw⟩:=h k x hk;exact hw
theorem iX.sT {W:World}{B:Nat}{o:Option Addr}{l:List (List Int)}(s:iX 85 3 (fun x=>x.map encI) W B o l)(hw:∀x∈l,jI x):fH W o l:=fun k z hk=>by
 obtain ⟨g,cur,e,_,_,_,h⟩:=s.at_ k z hk;exact ⟨g,0,e,h,hw z (aX hk)⟩
theorem iX.zM {W:World}{B:Nat}{o:Option Addr}{l:List gB}(s:iX 87 4 fC W B o l)(hw:∀x∈l,mN x):gM W o l:=fun k z hk=>by
 obtain ⟨g,cur,e,_,_,_,h⟩:=s.at_ k z hk;exact ⟨g,0,e,h,hw z (aX hk)⟩
end Fx
namespace Fx
open Go Go.RowKit Wm
def BM (k:Nat)(m:List Int):Prop:=m.length=16∧∀p,p<k→-67108864≤m.getD p 0∧m.getD p 0≤67108864
def BV (k:Nat)(v:List Int):Prop:=v.length=4∧∀p,p<k→-1073741824≤v.getD p 0∧v.getD p 0≤1073741824
theorem wZ {a b:Int}(a0:-67108864≤a∧a≤67108864)(b0:-1073741824≤b∧b≤1073741824):-72057594037927936≤a*b∧a*b≤72057594037927936:=by
 have h:a.natAbs*b.natAbs≤67108864*1073741824:=Nat.mul_le_mul (by omega) (by omega);have e:=Int.natAbs_mul a b;omega
theorem ZI {m v:List Int}(hm:BM 16 m)(hv:BV 4 v)(r:Nat)(hr:r<4):-4398046511105≤pq (rowOf m r) v∧pq (rowOf m r) v≤4398046511104:=by
 have h0:=wZ (hm.2 (r*4) (by omega)) (hv.2 0 (by omega));have h1:=wZ (hm.2 (r*4+1) (by omega)) (hv.2 1 (by omega));have h2:=wZ (hm.2 (r*4+2) (by omega)) (hv.2 2 (by omega));have h3:=wZ (hm.2 (r*4+3) (by omega)) (hv.2 3 (by omega));have e:dot (rowOf m r) v=m.getD (r*4) 0*v.getD 0 0+m.getD (r*4+1) 0*v.getD 1 0+m.getD (r*4+2) 0*v.getD 2 0+m.getD (r*4+3) 0*v.getD 3 0:=rfl;unfold pq;rw[e];omega
theorem Qc {m v:List Int}(hm:BM 16 m)(hv:BV 4 v):uK m v=some (kZ m v):=by
 unfold uK;rw[aZ];refine ⟨oQ.2 fun j hj=>?_,oQ.2 fun j hj=>?_,oQ.2 fun j hj=>?_⟩
 ·have:=hm.2 j hj;omega
 ·have:=hv.2 j hj;omega
 ·have hd:j=0∨j=1∨j=2∨j=3:=by omega
  rcases hd with rfl|rfl|rfl|rfl
  ·have:=ZI hm hv 0 (by omega)
   show (0:Int)≤_∧-4611686018427387904≤pq (rowOf m 0) v∧pq (rowOf m 0) v≤4611686018427387904;omega
  ·have:=ZI hm hv 1 (by omega)
   show (0:Int)≤_∧-4611686018427387904≤pq (rowOf m 1) v∧pq (rowOf m 1) v≤4611686018427387904;omega
  ·have:=ZI hm hv 2 (by omega)
   show (0:Int)≤_∧-4611686018427387904≤pq (rowOf m 2) v∧pq (rowOf m 2) v≤4611686018427387904;omega
  ·have:=ZI hm hv 3 (by omega)
   show (0:Int)≤_∧-4611686018427387904≤pq (rowOf m 3) v∧pq (rowOf m 3) v≤4611686018427387904;omega
theorem BM.of_wB {m:List Int}(hl:m.length=16){z:Int}(hz:z≤67108864)(h:wB z m 16=true):BM 16 m:=⟨hl,fun p hp=>by
 have:=oQ.1 h p hp;omega⟩
theorem aAa {a b:List Int}(la:a.length=16)(lb:b.length=16)(ha:wB 16777216 a 16=true)(hb:wB 16777216 b 16=true):∃m,rE a b=some m∧m.length=16:=by
 have hA:=BM.of_wB la (by omega) ha;have key:∀r,r<4→(qJ a b r).isSome=true:=by
  intro r hr;unfold qJ;have hv:BV 4 (rowOf (tr b) r):=by
   refine ⟨rfl,fun p hp=>?_⟩;have e:(rowOf (tr b) r).getD p 0=(tr b).getD (r*4+p) 0:=by
    obtain rfl|rfl|rfl|rfl:p=0∨p=1∨p=2∨p=3:=by omega
    all_goals rfl
   have e2:(tr b).getD (r*4+p) 0=b.getD ((r*4+p)%4*4+(r*4+p)/4) 0:=by
    unfold tr;rw[aS,bZ,List.getElem?_range (by omega)];rfl
   have:=oQ.1 hb ((r*4+p)%4*4+(r*4+p)/4) (by omega);rw[e,e2];omega
  rw[Qc hA hv];rfl
 have hm:rE a b=some (tr (KT a b)):=by
  unfold rE;rw[aZ ⟨key 0 (by omega),key 1 (by omega),key 2 (by omega),key 3 (by omega)⟩]
 exact ⟨_,hm,xD hm⟩
theorem Pz {s:eF}{k:Nat}{x:eE}(hx:s.os[k]?=some x):nP s (k:Int)=rE s.jN x.m:=by
 unfold nP;rw[aZ (by have:=(aY.1 hx).1;omega)];simp[hx]
theorem Mb {s:eF}{x:eE}{k:Nat}(hs:iA s)(hw:jY x)(hx:s.os[k]?=some x)(hc:wB 16777216 s.jN 16=true)(h5:xJ s x k=true):yF s k=EF s x k:=by
 obtain ⟨m,hm,_⟩:=aAa hs.len hw.len hc h5;unfold yF EF;rw[Pz hx,hm];rfl
end Fx
namespace Fx
open Go Go.RowKit Go.Shelf
theorem Kept.refl (B:Nat)(W:World):Kept B W W:=⟨rfl,rfl,rfl,aB _,fun _ _ h _=>h⟩
theorem Kept.trans {B:Nat}{X Y Z:World}(h:Kept B X Y)(k:Kept B Y Z):Kept B X Z :=
 ⟨k.os.trans h.os,k.tape.trans h.tape,k.output.trans h.output,bH h.size k.size,fun i o hi hc=>k.block i o (h.block i o hi hc) hc⟩
structure iY (B hi:Nat)(ds:List Deferred)(W:World):Prop where
 each:∀d∈ds,∃D,d={ target:=.collected D,args:=#[] }∧B≤D∧D<hi∧W.heap[D]?=some (.deferred (some []))
 apart:ds.Pairwise fun a b=>a.target≠b.target
theorem iY.nil (B hi:Nat)(W:World):iY B hi [] W:=⟨fun d h=>(List.not_mem_nil h).elim,List.Pairwise.nil⟩
theorem iY.cons {B hi D:Nat}{ds:List Deferred}{W:World}(h:iY B hi ds W)(hB:B≤D)(hD:hi≤D)(hd:W.heap[D]?=some (.deferred (some []))):iY B (D+1) ({ target:=.collected D,args:=#[] }::ds) W:=by
 refine ⟨fun d hm=>?_,List.pairwise_cons.2 ⟨fun d hm=>?_,h.apart⟩⟩
 ·rcases List.mem_cons.1 hm with rfl|hm
  ·exact ⟨D,rfl,hB,by omega,hd⟩
  ·obtain ⟨E,e,h1,h2,h3⟩:=h.each d hm
   exact ⟨E,e,h1,by omega,h3⟩
 ·obtain ⟨E,rfl,h1,h2,h3⟩:=h.each d hm
  intro e;have : D=E:=by simpa using e
  omega
theorem iY.keeps {B hi:Nat}{ds:List Deferred}{W X:World}(h:iY B hi ds W)(k:KeepsFrom B W X):iY B hi ds X :=
 ⟨fun d hm=>by
  obtain ⟨E,e,h1,h2,h3⟩:=h.each d hm;exact ⟨E,e,h1,h2,k.same _ _ h1 h3 rfl⟩,h.apart⟩
theorem iY.kept {B hi C:Nat}{ds:List Deferred}{W X:World}(h:iY B hi ds W)(hc:hi≤C)(k:Kept C W X):iY B hi ds X :=
 ⟨fun d hm=>by
  obtain ⟨E,e,h1,h2,h3⟩:=h.each d hm;exact ⟨E,e,h1,h2,k.block _ _ h3 (.inl (by omega))⟩,h.apart⟩
theorem iY.wide {B hi hj:Nat}{ds:List Deferred}{W:World}(h:iY B hi ds W)(hc:hi≤hj):iY B hj ds W :=
 ⟨fun d hm=>by
  obtain ⟨E,e,h1,h2,h3⟩:=h.each d hm;exact ⟨E,e,h1,by omega,h3⟩,h.apart⟩
theorem EC {n:Nat}{P:Program}{fn:Func}{tmps:Array Value}{R:Ending→World→Prop}{B:Nat}:∀ (ds:List Deferred) (hi:Nat) (W:World),iY B hi ds W →
  (∀X,Kept B W X→LeavesInM Fence.wide n P fn tmps R [] .returning X)→LeavesInM Fence.wide n P fn tmps R ds .returning W
 | [],hi,W,_,h=>h W (Kept.refl _ _)
 | d::ds,hi,W,hd,h=>by
  obtain ⟨D,rfl,h1,h2,h3⟩:=hd.each d (by simp);have hk:Kept B W (W.putObj D (.deferred none)):=Kept.putObj _ h1 h3 rfl;refine ⟨by simp,.inl ⟨_,_,rfl,run_takeDeferred h3,?_⟩⟩;refine EC ds hi _ ⟨fun d hm=>?_,(List.pairwise_cons.1 hd.apart).2⟩ (fun X k=>h X (hk.trans k));obtain ⟨E,rfl,e1,e2,e3⟩:=hd.each d (by simp[hm]);refine ⟨E,rfl,e1,e2,(World.putObj_heap_other (fun e=>?_)).trans e3⟩;have:=(List.pairwise_cons.1 hd.apart).1 _ hm;exact this (by rw[e])
def Bi (s:eF)(r:Nat)(x:eE)(k:Nat):Bool:=if r=0 then rF s x k else if r=1 then xJ s x k else if r=2 then yF s k else if r=3 then tW s x k else tV s x k
def TK (r:Nat):Nat:=if r=0 then 118 else if r=1 then 120 else if r=2 then 121 else if r=3 then 123 else 126
def Ph (A r:Nat):Array Value:=if r=0∨r=2 then #[.pointer (some ⟨A,0,none⟩)] else #[]
def FH (A r:Nat):Value:=.func (.func (TK r)) #[] (Ph A r)
def Bj (A:Nat):Array Value:=#[FH A 0,FH A 1,FH A 2,FH A 3,FH A 4]
theorem XQ {r:Nat}(hr:r<5):∀args w,(callFunc (TK r) args).run prog w=.ok (.enter (TK r) args) w:=by
 obtain rfl|rfl|rfl|rfl|rfl:r=0∨r=1∨r=2∨r=3∨r=4:=by omega
 ·exact enters_of func118 (by kernel_rfl) rfl
 ·exact enters_of func120 (by kernel_rfl) rfl
 ·exact enters_of func121 (by kernel_rfl) rfl
 ·exact enters_of func123 (by kernel_rfl) rfl
 ·exact enters_of func126 (by kernel_rfl) rfl
theorem Pg (s:eF)(x:eE)(k r A:Nat)(w:World)(hr:r<5)(hs:iA s)(ha:eZ A s w)(h:eN w s.oo s.os)(hx:s.os[k]?=some x) :
  Calls prog (TK r) (#[.int .i64 (k:Int),.agg (dP x).toArray]++Ph A r) w (fJ (Bi s r x k) w):=by
 obtain ⟨hw,hv,ht⟩:=h.wf hx;obtain rfl|rfl|rfl|rfl|rfl:r=0∨r=1∨r=2∨r=3∨r=4:=by omega
 ·exact duty1 s x k A w hs ha h hx
 ·exact duty2 s x k w hw
 ·exact duty3 s x k A w hs ha h hx
 ·exact duty4 s x k w hw hv
 ·exact duty5 s x k w hw ht
theorem Pf {s:eF}{x:eE}{k r:Nat}(hr:r<5)(hs:iA s)(hw:jY x)(hx:s.os[k]?=some x)(hc:wB 16777216 s.jN 16=true)(hn:∀q,4≤q→q<4+r→jF s q=none):nQ s (4+r) k = !Bi s r x k:=by
 have hb:nQ s (4+r) k = !tU s x k (4+r):=by unfold nQ;rw[hx]
 rw[hb];obtain rfl|rfl|rfl|rfl|rfl:r=0∨r=1∨r=2∨r=3∨r=4:=by omega
 ·rfl
 ·rfl
 ·have h5:xJ s x k=true:=by
   have:=hn 5 (by omega) (by omega);unfold jF at this;rw[List.find?_eq_none] at this;have h1:=this k (by simpa using (aY.1 hx).1);unfold nQ at h1;rw[hx] at h1;have e:tU s x k 5=xJ s x k:=rfl;dsimp only at h1;rw[e] at h1
   simpa using h1
  have : Bi s 2 x k=yF s k:=rfl;rw[this,Mb hs hw hx hc h5];rfl
 ·rfl
 ·rfl
def YP (D A:Nat)(W:World):Prop:=W.heap[D]?=some (.cells (Bj A) 151 (0,0))
theorem YP.cell {D A r:Nat}{W:World}(h:YP D A W)(hr:r<5):W.cell? ⟨D,r,none⟩=some (FH A r):=by
 rw[aD _ _ _ _ _ _ h];obtain rfl|rfl|rfl|rfl|rfl:r=0∨r=1∨r=2∨r=3∨r=4:=by omega
 all_goals rfl
theorem Pj (s:eF)(w:World):Calls prog 100 #[.agg (eU s)] w fun e w' =>
  e=.returned (.slice (some ⟨w.heap.size+1,0,none⟩) 5 5)∧w'=(w.alloc (.cells (eU s) 28)).alloc (.cells (Bj w.heap.size) 151):=by
 go_enter func100,ntmps100;go_wp2_with fail;go_ret;exact ⟨rfl,rfl⟩
theorem PZ (n:Int)(w:World):Calls prog 98 #[.int .i64 n] w fun e w'=>e=.returned (.bool (decide (1≤n) && decide (n≤64)))∧w'=w:=by
 by_cases h1:1≤n
 ·by_cases h2:n≤64
  ·go_enter func98,ntmps98
   go_wp2_with fail;go_ret;exact ⟨by (first|(simp[*];done)|(simp;omega)|(simp[*];omega)),rfl⟩
  ·go_enter func98,ntmps98
   go_wp2_with fail;go_ret;exact ⟨by (first|(simp[*];done)|(simp;omega)|(simp[*];omega)),rfl⟩
 ·go_enter func98,ntmps98
  go_wp2_with fail;go_ret;exact ⟨by (first|(simp[*];done)|(simp;omega)|(simp[*];omega)),rfl⟩
attribute [local go_sem] Oper.semAt_some
def Rows (t:TypeId)(W X:World):Prop:=∀ (g:Nat) (cur:Array Value),W.heap[g]?=some (.cells cur t (0,0))→X.heap[g]?=some (.cells cur t (0,0))
theorem Rows.refl (t:TypeId)(W:World):Rows t W W:=fun _ _ h=>h
theorem Rows.trans {t:TypeId}{W X Y:World}(h:Rows t W X)(k:Rows t X Y):Rows t W Y:=fun g cur hg=>k g cur (h g cur hg)
theorem Rows.of_below {t:TypeId}{W X:World}(h:Below W.heap.size W X):Rows t W X:=fun g cur hg=>dL h hg
theorem Rows.ZM {t:TypeId}{B:Nat}{W X:World}(h:Kept B W X):Rows t W X:=fun g cur hg=>h.cells hg
theorem Rows.lT {t u:TypeId}{m j:Nat}{c:Array Value}{v:Value}{W:World}(hm:W.heap[m]?=some (.cells c u (0,0)))(hne:t≠u):Rows t W (W.setCell ⟨m,j,none⟩ v):=fun g cur hg=>by
 rw[aK _ _ _ _ (by
  show g≠m;intro e;subst e;rw[hg] at hm
  cases hm;exact hne rfl)]
 exact hg
theorem Rows.iL {t u:TypeId}{row:Option Nat}{W X:World}(h:W.grownBy X row)(hr:∀k,row=some k→∃c,W.heap[k]?=some (.cells c u (0,0)))(hne:t≠u):Rows t W X:=fun g cur hg=>by
 rw[h.block g (aC.1 hg).1 (fun e=>by
  obtain ⟨c,hc⟩:=hr g e.symm;rw[hg] at hc
  cases hc;exact hne rfl)]
 exact hg
theorem iX.rows {α:Type}{t:TypeId}{n:Nat}{f:α→List Value}{W X:World}{B:Nat}{o:Option Addr}{l:List α}(s:iX t n f W B o l)(h:Rows t W X):iX t n f X B o l :=
 ⟨fun k z hk=>by
  obtain ⟨g,cur,e,hb,hg,hs,hr⟩:=s.at_ k z hk;refine ⟨g,cur,e,hb,h g cur hg,hs,fun j u hj=>?_⟩;have:=hr j u hj;rw[aD _ _ _ _ _ _ hg] at this;rw[aD _ _ _ _ _ _ (h g cur hg)];exact this⟩
theorem iX.base {α:Type}{t:TypeId}{n:Nat}{f:α→List Value}{W:World}{B C:Nat}{o:Option Addr}{l:List α}(hc:C≤B)(s:iX t n f W B o l):iX t n f W C o l :=
 ⟨fun k z hk=>by
  obtain ⟨g,cur,e,hb,h⟩:=s.at_ k z hk;exact ⟨g,cur,e,bH hc hb,h⟩⟩
structure gV (B:Nat)(x:eE)(W:World):Prop where
 wf:jY x
 v:iX 85 3 (fun z=>z.map encI) W B x.vo x.vs
 t:iX 87 4 fC W B x.tq x.ts
 vw:∀z∈x.vs,jI z
 tw:∀z∈x.ts,mN z
theorem gV.rows {B:Nat}{x:eE}{W X:World}(s:gV B x W)(h3:Rows 85 W X)(h4:Rows 87 W X):gV B x X:=⟨s.wf,s.v.rows h3,s.t.rows h4,s.vw,s.tw⟩
theorem gV.base {B C:Nat}{x:eE}{W:World}(hc:C≤B)(s:gV B x W):gV C x W:=⟨s.wf,s.v.base hc,s.t.base hc,s.vw,s.tw⟩
structure fF (B:Nat)(c:eF)(W:World):Prop where
 wf:iA c
 objs:iX 73 19 dP W B c.oo c.os
 each:∀x∈c.os,gV B x W
theorem fF.at {B:Nat}{c:eF}{W:World}(s:fF B c W):eN W c.oo c.os:=fun k z hk=>by
 obtain ⟨g,cur,e,_,_,_,h⟩:=s.objs.at_ k z hk;have hz:=s.each z (aX hk);exact ⟨g,0,e,h,hz.v.sT hz.vw,hz.t.zM hz.tw,hz.wf⟩
def UN (s:eF)(v:Value):List Value:=.int .i64 s.w :: .int .i64 s.h::(s.jN.map encI++[v])
theorem sH {s:eF}(h:iA s)(v:Value):(UN s v).toArray.size=19:=by simp[UN,h.len]
theorem nA (s:eF)(v:Value)(hv:v.oneCell'=true):(UN s v).toArray.all (·.oneCell')=true:=by
 rw[Array.all_eq_true_iff_forall_mem];intro u hu;simp only[UN,List.mem_toArray,List.mem_cons,bS,List.mem_map,List.not_mem_nil,or_false] at hu
 rcases hu with rfl|rfl|⟨z,_,rfl⟩|rfl
 ·rfl
 ·rfl
 ·rfl
 ·exact hv
theorem LQ {s:eF}(h:iA s)(v u:Value):(UN s v).toArray.setIfInBounds 18 u=(UN s u).toArray:=by
 simp[UN,List.set_append,h.len]
theorem VK {s:eF}(h:iA s)(v:Value):(UN s v).toArray[18]?=some v:=by
 simp[UN,h.len]
theorem WR {x:eE}(h:x.m.length=16)(o:Option Addr)(c:Nat):(dP x).toArray.setIfInBounds 17 (.slice o x.vs.length c)=(dP { x with vo:=o,vc:=c }).toArray:=by
 simp[dP,List.set_append,h]
theorem WQ {x:eE}(h:x.m.length=16)(o:Option Addr)(c:Nat):(dP x).toArray.setIfInBounds 18 (.slice o x.ts.length c)=(dP { x with tq:=o,tc:=c }).toArray:=by
 simp[dP,List.set_append,h]
structure Iq (s:eF)(v:Value)(l:List eE)(w W:World):Prop where
 box:eZ w.heap.size s W
 res:W.heap[w.heap.size+1]?=some (.cells #[.int .i64 0,.int .i64 0,.int .i64 0,.int .i64 0,.int .i64 0,.int .i64 0,.int .i64 0,.int .i64 0,.int .i64 0,.int .i64 0,.int .i64 0,.int .i64 0,.int .i64 0,.int .i64 0,.int .i64 0,.int .i64 0,.int .i64 0,.int .i64 0,.slice none 0 0] 28 (0,0))
 twin:W.heap[w.heap.size+1+1]?=some (.cells (UN s v).toArray 28 (0,0))
 it:eZ (w.heap.size+1+1+1) s W
 own:fK 73 19 dP W (w.heap.size+1+1+1+1) v l
 each:∀x∈l,gV (w.heap.size+1+1+1+1) x W
 below:Below w.heap.size w W
theorem Iq.kept {s:eF}{v:Value}{l:List eE}{B:Nat}{w W X:World}(hB:w.heap.size≤B)(h:Kept B W X)(i:Iq s v l w W):Iq s v l w X :=
 ⟨i.box.kept h,h.cells i.res,h.cells i.twin,i.it.kept h,i.own.kept h,fun x hx=>(i.each x hx).rows (Rows.ZM h) (Rows.ZM h),h.below hB i.below⟩
theorem Iq.up {s:eF}{v:Value}{l:List eE}{w W X:World}(h:Below W.heap.size W X)(i:Iq s v l w W):Iq s v l w X :=
 ⟨i.box.below h,dL h i.res,dL h i.twin,i.it.below h,i.own.below h,fun x hx=>(i.each x hx).rows (Rows.of_below h) (Rows.of_below h),dN i.below h⟩
theorem Iq.put {s:eF}{v u:Value}{l:List eE}{w W:World}{b j:Nat}{c:Array Value}(i:Iq s v l w W)(hb:w.heap.size+1+1+1<b)(ho:v.ownBlock≠some b)(hr:W.heap[b]?=some (.cells c 73 (0,0))):Iq s v l w (W.setCell ⟨b,j,none⟩ u):=by
 have keep:∀ {g:Nat} {o:Obj},g<b→W.heap[g]?=some o→(W.setCell ⟨b,j,none⟩ u).heap[g]?=some o:=fun hlt h=>by
  rw[aK _ _ _ _ (by show _≠b;omega)];exact h
 exact ⟨keep (by omega) i.box,keep (by omega) i.res,keep (by omega) i.twin,keep (by omega) i.it,i.own.kU ho,
  fun x hx=>(i.each x hx).rows (Rows.lT hr (by decide)) (Rows.lT hr (by decide)),i.below.setCell (p:=⟨b,j,none⟩) (by show _≤b;omega) _⟩
theorem Iq.step {s:eF}{v v':Value}{l l':List eE}{w W X:World}(hs:iA s)(i:Iq s v l w W)(ho:fK 73 19 dP X (w.heap.size+1+1+1+1) v' l')(hg:W.grownBy X v.ownBlock)(he:∀x∈l',gV (w.heap.size+1+1+1+1) x W) :
  Iq s v' l' w (X.setCell ⟨w.heap.size+1+1,18,none⟩ v'):=by
 have hb:=i.own.blk;have keep:∀ {g:Nat} {o:Obj},g<w.heap.size+1+1+1+1→W.heap[g]?=some o→X.heap[g]?=some o:=fun hlt h=>by
  rw[hg.block _ (aC.1 h).1 (fun e=>by have:=hb _ e.symm;omega)];exact h
 have k2:∀ {g:Nat} {o:Obj},g≠w.heap.size+1+1→g<w.heap.size+1+1+1+1→W.heap[g]?=some o→(X.setCell ⟨w.heap.size+1+1,18,none⟩ v').heap[g]?=some o:=fun hne hlt h=>by
  rw[aK _ _ _ _ hne];exact keep hlt h
 have ht:=keep (by omega) i.twin;refine ⟨k2 (by omega) (by omega) i.box,k2 (by omega) (by omega) i.res,?_,k2 (by omega) (by omega) i.it,ho.kU (fun e=>by have:=ho.blk _ e;omega),fun x hx=>?_,?_⟩
 ·rw[aM _ _ 18 _ _ v' ht,LQ hs]
 ·have h1:∀ {t:TypeId},t≠73→t≠28→Rows t W (X.setCell ⟨w.heap.size+1+1,18,none⟩ v'):=fun n1 n2=>(Rows.iL hg (fun k hk=>i.own.row k hk) n1).trans (Rows.lT ht n2)
  exact (he x hx).rows (h1 (by decide) (by decide)) (h1 (by decide) (by decide))
 ·exact (gZ (aB _) i.below hg (fun k hk=>by have:=hb k hk;omega)).setCell (p:=⟨w.heap.size+1+1,18,none⟩) (by show _≤w.heap.size+1+1;omega) _
theorem XX {W X:World}(hg:W.grownBy X none):Below W.heap.size W X:=gZ (aB _) (aJ _ _) hg (fun k hk=>by cases hk)
theorem JR (s:eF)(h:iA s)(v:Value):(prog.info? 28).map (·.size)=some (UN s v).toArray.size:=by rw[sH h];kernel_rfl
end Fx
namespace Fx
open Go Go.RowKit
def mO (k:IntKind)(W:World)(b j:Nat):Prop:=((∃z,W.cell? ⟨b,j,none⟩=some (.int k z))∧b<W.heap.size)∧W.frozen? ⟨b,j,none⟩=false
theorem mO.below {k:IntKind}{W X:World}{b j:Nat}(hb:Below W.heap.size W X)(h:mO k W b j):mO k X b j:=by
 obtain ⟨⟨⟨z,hz⟩,hl⟩,hf⟩:=h;exact ⟨⟨⟨z,dE hb hz⟩,aP hl hb.size⟩,dK hb hl hf⟩
theorem mO.put {k q:IntKind}{W:World}{b j b2 j2:Nat}(h:mO k W b j)(h2:mO q W b2 j2)(z:Int):mO k (W.setCell ⟨b2,j2,none⟩ (.int q z)) b j:=by
 obtain ⟨⟨⟨y,hy⟩,hl⟩,hf⟩:=h;obtain ⟨⟨⟨y2,hy2⟩,hl2⟩,hf2⟩:=h2;refine ⟨⟨?_,by simpa using hl⟩,by rw[World.frozen?_setCell];exact hf⟩;by_cases e:(⟨b2,j2,none⟩:Addr)=⟨b,j,none⟩
 ·cases e
  rw[hy2] at hy
  cases hy;exact ⟨z,World.cell?_setCell_same _ _ _ hy2⟩
 ·exact ⟨y,by rw[World.cell?_setCell_other _ _ _ _ e];exact hy⟩
theorem oK {q:IntKind}{W:World}{a:Addr}{b2 j2 n c:Nat}{o:Option Addr}(h:W.cell? a=some (.slice o n c))(h2:mO q W b2 j2)(z:Int):(W.setCell ⟨b2,j2,none⟩ (.int q z)).cell? a=some (.slice o n c):=by
 obtain ⟨⟨⟨y2,hy2⟩,hl2⟩,hf2⟩:=h2;by_cases e:(⟨b2,j2,none⟩:Addr)=a
 ·subst e
  rw[hy2] at h
  cases h
 ·rw[World.cell?_setCell_other _ _ _ _ e]
  exact h
structure Sq (B bc:Nat)(c:eF)(V W:World):Prop where
 below:Below B V W
 le:B≤bc
 box:W.heap[bc]?=some (.cells (eU c) 28 (0,0))
 id:∀k x,c.os[k]?=some x→∃g off,c.oo=some ⟨g,off,none⟩∧B≤g∧g≠bc∧mO .i64 W g (off+k*19)∧W.cell? ⟨g,off+k*19+17,none⟩=some (.slice x.vo x.vs.length x.vc)∧W.cell? ⟨g,off+k*19+18,none⟩=some (.slice x.tq x.ts.length x.tc)
 vs:∀x∈c.os,∀j,j<x.vs.length→∃g off,x.vo=some ⟨g,off,none⟩∧B≤g∧g≠bc∧mO .i64 W g (off+j*3)
 ts:∀x∈c.os,∀j,j<x.ts.length→∃g off,x.tq=some ⟨g,off,none⟩∧B≤g∧g≠bc∧mO .i64 W g (off+j*4)
theorem Sq.up {B bc:Nat}{c:eF}{V W X:World}(hb:Below W.heap.size W X)(hB:B≤W.heap.size)(i:Sq B bc c V W):Sq B bc c V X:=by
 refine ⟨i.below.trans (hb.mono hB),i.le,dL hb i.box,fun k x hk=>?_,fun x hx j hj=>?_,fun x hx j hj=>?_⟩
 ·obtain ⟨g,off,e,h1,h2,h3,h4,h5⟩:=i.id k x hk
  exact ⟨g,off,e,h1,h2,h3.below hb,dE hb h4,dE hb h5⟩
 ·obtain ⟨g,off,e,h1,h2,h3⟩:=i.vs x hx j hj
  exact ⟨g,off,e,h1,h2,h3.below hb⟩
 ·obtain ⟨g,off,e,h1,h2,h3⟩:=i.ts x hx j hj
  exact ⟨g,off,e,h1,h2,h3.below hb⟩
theorem Sq.lt {B bc:Nat}{c:eF}{V W:World}(i:Sq B bc c V W):B≤W.heap.size:=by
 have:=(aC.1 i.box).1;have:=i.le;omega
theorem Sq.put {B bc:Nat}{c:eF}{V W:World}(i:Sq B bc c V W){g j:Nat}(hg:B≤g)(hn:g≠bc)(h:mO .i64 W g j)(z:Int):Sq B bc c V (W.setCell ⟨g,j,none⟩ (.int .i64 z)):=by
 refine ⟨i.below.setCell (p:=⟨g,j,none⟩) hg _,i.le,?_,fun k x hk=>?_,fun x hx j hj=>?_,fun x hx j hj=>?_⟩
 ·rw[aK _ _ _ _ (by exact fun e=>hn e.symm)]
  exact i.box
 ·obtain ⟨g,off,e,h1,h2,h3,h4,h5⟩:=i.id k x hk
  exact ⟨g,off,e,h1,h2,h3.put h z,oK h4 h z,oK h5 h z⟩
 ·obtain ⟨g,off,e,h1,h2,h3⟩:=i.vs x hx j hj
  exact ⟨g,off,e,h1,h2,h3.put h z⟩
 ·obtain ⟨g,off,e,h1,h2,h3⟩:=i.ts x hx j hj
  exact ⟨g,off,e,h1,h2,h3.put h z⟩
theorem oD {t:TypeId}{W:World}{g j:Nat}{cur:Array Value}{k:IntKind}{z:Int}(h:W.heap[g]?=some (.cells cur t (0,0)))(hc:W.cell? ⟨g,j,none⟩=some (.int k z)):mO k W g j:=⟨⟨⟨z,hc⟩,(aC.1 h).1⟩,dJ h⟩
theorem Sq.new {B C bc:Nat}{c:eF}{V W:World}(hC:B≤C)(s:fF C c W)(hb:Below B V W)(hle:B≤bc)(hbc:W.heap[bc]?=some (.cells (eU c) 28 (0,0))):Sq B bc c V W:=by
 have hne:∀ {t:TypeId} {g:Nat} {cur:Array Value},W.heap[g]?=some (.cells cur t (0,0))→t≠28→g≠bc:=fun h ht e=>by
  subst e;rw[hbc] at h
  cases h;exact ht rfl
 refine ⟨hb,hle,hbc,fun k x hk=>?_,fun x hx j hj=>?_,fun x hx j hj=>?_⟩
 ·obtain ⟨g,cur,e,h1,h2,_,h3⟩:=s.objs.at_ k x hk
  have hw:=(s.each x (aX hk)).wf;refine ⟨g,0,e,by omega,hne h2 (by decide),oD h2 (z:=x.id) ?_,?_,?_⟩
  ·exact h3 0 _ (uW x)
  ·exact h3 17 _ (nB hw)
  ·exact h3 18 _ (nC hw)
 ·have hw:=s.each x hx
  obtain ⟨v,hv⟩:∃v,x.vs[j]?=some v:=⟨_,aF hj⟩;obtain ⟨g,cur,e,h1,h2,_,h3⟩:=hw.v.at_ j v hv;have ay:=(hw.vw v (aX hv)).len;obtain ⟨z,hz⟩:∃z,v[0]?=some z:=⟨_,aF (by omega)⟩;refine ⟨g,0,e,by omega,hne h2 (by decide),oD h2 (z:=z) ?_⟩;exact h3 0 _ (by rw[bZ,hz];rfl)
 ·have hw:=s.each x hx
  obtain ⟨v,hv⟩:∃v,x.ts[j]?=some v:=⟨_,aF hj⟩;obtain ⟨g,cur,e,h1,h2,_,h3⟩:=hw.t.at_ j v hv;refine ⟨g,0,e,by omega,hne h2 (by decide),oD h2 (z:=v.a) ?_⟩;exact h3 0 _ rfl
theorem IC {n:Nat}{P:Program}{o:Oper}{a:Act}{w:World}{K:Act→World→Prop}{Q:Exit→Act→World→Prop}(f:FuncId)(args:Array Value)(hrun:(execOp a.eval o).run P w=.ok (.enter f args) w)(c:Callee)(ps:Array Operand)(ts:Array TypeId)(ho:o.op=.call { callee:=c,args:=ps,argTypes:=ts })
  {post:Ending→World→Prop} (hc:Calls P f args w post) (h:∀e w',post e w'→∃v,e=.returned v∧K (a.put o.dst v) w'):Oper.wpIn Fence.wide n P o a w K Q:=by
 unfold Oper.wpIn;refine ⟨fun f _=>trivial,?_⟩;rw[Oper.semAt_plain _ _ _ (by rw[ho];intro c hc';cases hc'),hrun];refine ⟨fun h=>(by cases h),bG.2 (hc.mono ?_)⟩;intro e w' hp;obtain ⟨v,rfl,hk⟩:=h e w' hp;exact hk
end Fx
namespace Fx
open Go Go.RowKit Go.Shelf
theorem Iu (a b:eF)(w:World)(ha:iA a)(hb:iA b)(h:eN w a.oo a.os)(h2:eN w b.oo b.os)(hs:QA a b) :
  Calls prog 15 #[.agg (eU a),.agg (eU b)] w (fJ true w):=by
 obtain ⟨h1,h3,h4,h5⟩:=hs;have:=Da a b w ha hb h h2 h1 h3 h4 (by have:=congrArg List.length h5;simpa using this) h5
 rwa [bA h5] at this
end Fx
namespace Pk
open Fx (Hands)
open Go Go.RowKit Go.Shelf
attribute [local go_sem] Oper.semAt_some
def Hv (n A:Nat)(X:World):Prop:=X.cell? ⟨A,0,none⟩=some (.int .u64 (n:Int))
def xQ (n k:Nat):Array Value:=#[.int .u8 (((form n).getD k 0:Nat):Int)]
theorem u8_or128 (m:Nat):bits .or .u8 ((m:Int)%256) 128=128+(m:Int)%128:=by
 have h:∀x:Fin 256,bits .or .u8 ((x.val:Nat):Int) 128=((128+x.val%128:Nat):Int):=by decide
 have:=h ⟨m%256,cO _ (by omega)⟩;dsimp only at this;rw[show ((m:Int)%256)=((m%256:Nat):Int) by omega,this];omega
theorem zY {n m k:Nat}(h:m<128)(hf:form m=(form n).drop k):(form n).length=k+1∧(form n).getD k 0=m:=by
 rw[jX h] at hf;have hl:=congrArg List.length hf;simp at hl;refine ⟨by omega,?_⟩;have hk:k<(form n).length:=by omega
 rw[List.drop_eq_getElem_cons hk] at hf;simp only[List.cons.injEq] at hf;simp[List.getD,hk,hf.1]
theorem IQ {n m k:Nat}(h:¬ m<128)(hm:m<18446744073709551616)(hf:form m=(form n).drop k):k<(form n).length∧(form n).getD k 0=128+m%128∧form (m/128)=(form n).drop (k+1):=by
 rw[uC h hm] at hf;have hl:=congrArg List.length hf;have:=(gP (m/128)).1;simp at hl;have hk:k<(form n).length:=by omega
 rw[List.drop_eq_getElem_cons hk] at hf;simp only[List.cons.injEq] at hf;exact ⟨hk,by simp[List.getD,hk,hf.1],hf.2⟩
theorem EW (n A:Nat)(hn:n<18446744073709551616) :
  Hands Fence.wide 4 prog 139 #[.pointer (some ⟨A,0,none⟩)] (xQ n) (form n).length (Hv n A):=by
 intro l J Jx W Sk hJ2 UQ Fl hY h0;have cA:=UQ 0 W h0;have HY:=aA hY;clear hY;unfold Hv at cA;refine callsIn_of_wp func139 rfl trivial ?_ rfl;simp only[ntmps139,aL,bO,List.length_nil,Nat.reduceAdd,Nat.reduceSub,Array.replicate_succ,Array.replicate_zero,List.push_toArray,List.append_toArray,cB,cC];gi_wp2
 gi_loopw [3] (fun v3 wr=>∃k m:Nat,v3=.int .u64 (m:Int)∧m<18446744073709551616∧form m=(form n).drop k∧J k wr) (fun v3 _=>(intOf v3).toNat)
 case atStart=>exact ⟨0,n,rfl,hn,rfl,h0⟩
 case round =>
  clear cA;obtain ⟨k,m,rfl,hm,hf,hJ⟩:=hrel;by_cases hs:m<128
  ·obtain ⟨hl,hg⟩:=zY hs hf
   obtain ⟨fn,tmps,assign,body,hy,hR⟩:=HY.out k wr (by omega) hJ;simp only[xQ] at hy;rw[hg] at hy;have t1:¬ (128:Int)≤(m:Int):=by omega
   have hw:IntKind.u8.wrap (m:Int)=(m:Int):=by rw[IntKind.wrap_u8];omega
   have HKN:Hid (k+1=(form n).length):=aA hl.symm;clear hf hl hg;gi_wp2;refine hR.mono ?_;rintro e W3 (⟨rfl,hJ3⟩|⟨rfl,zX⟩)
   ·gi_wp2
    go_end0
    exact ⟨⟨_,rfl⟩,.inl (HKN.out▸hJ3)⟩
   ·gi_wp2
    go_end0
    exact ⟨⟨_,rfl⟩,.inr zX⟩
  ·obtain ⟨hk,hg,hf2⟩:=IQ hs hm hf
   obtain ⟨fn,tmps,assign,body,hy,hR⟩:=HY.out k wr hk hJ;simp only[xQ] at hy;rw[hg] at hy;have t1:(128:Int)≤(m:Int):=by omega
   have hor:=u8_or128 m;rw[show ((128+m%128:Nat):Int)=128+(m:Int)%128 by omega] at hy;gi_wp2;refine hR.mono ?_;rintro e W3 (⟨rfl,hJ3⟩|⟨rfl,zX⟩)
   ·gi_wp2
    go_roundw
    case rel=>exact ⟨k+1,m/128,by go_num,by omega,hf2,hJ3⟩
    case measure=>simp[intOf];omega
   ·gi_wp2
    refine aO (results_none rfl _ _ _) rfl ?_;exact ⟨⟨_,rfl⟩,.inr zX⟩
theorem Oq (n:Nat)(w:World):Calls prog 115 #[.int .u64 (n:Int)] w fun e w' =>
  e=.returned (.func (.func 139) #[] #[.pointer (some ⟨w.heap.size,0,none⟩)])∧w'=w.alloc (.cells #[.int .u64 (n:Int)] 89):=by
 go_enter func115,ntmps115;go_wp2;go_ret;exact ⟨rfl,rfl⟩
end Pk
namespace Pk
open Go Go.RowKit
def fl (made lost:Bool):Int:=if made then (if lost then 50 else 0) else 1
theorem yZ (p:Nat)(made lost:Bool)(w:World)(c0:w.cell? ⟨p,0,none⟩=some (.bool made))(c1:w.cell? ⟨p,1,none⟩=some (.bool lost)) :
  Calls prog 108 #[.pointer (some ⟨p,0,none⟩)] w fun e w'=>e=.returned (.int .i64 (fl made lost))∧w=w':=by
 cases made with
 | false =>
  go_enter func108,ntmps108;go_wp2_with fail;go_ret;exact ⟨rfl,rfl⟩
 | true =>
  cases lost with
  | true =>
   go_enter func108,ntmps108;go_wp2_with fail;go_ret;exact ⟨rfl,rfl⟩
  | false =>
   go_enter func108,ntmps108;go_wp2_with fail;go_ret;exact ⟨rfl,rfl⟩
theorem kD (p:Nat)(made lost:Bool)(w:World)(c0:w.cell? ⟨p,0,none⟩=some (.bool made))(c1:w.cell? ⟨p,1,none⟩=some (.bool lost)) :
  Calls prog 92 #[.pointer (some ⟨p,0,none⟩)] w fun e w'=>e=.returned (.int .i64 (fl made lost))∧w=w':=by
 have H0:=yZ p made lost w c0 c1;clear c0 c1;generalize fl made lost=z at *;have H:=aA H0;clear H0;go_enter func92,ntmps92;go_wp2_with fail;refine H.out.mono ?_;rintro e w1 ⟨rfl,rfl⟩;go_wp2_with fail;go_ret;exact ⟨rfl,rfl⟩
theorem fV (p:Nat)(made lost:Bool)(w:World)(c0:w.cell? ⟨p,0,none⟩=some (.bool made))(c1:w.cell? ⟨p,1,none⟩=some (.bool lost)) :
  Calls prog 77 #[.pointer (some ⟨p,0,none⟩)] w fun e w'=>e=.returned (.int .i64 (fl made lost))∧w=w':=by
 have H0:=yZ p made lost w c0 c1;clear c0 c1;generalize fl made lost=z at *;have H:=aA H0;clear H0;go_enter func77,ntmps77;go_wp2_with fail;refine H.out.mono ?_;rintro e w1 ⟨rfl,rfl⟩;go_wp2_with fail;go_ret;exact ⟨rfl,rfl⟩
structure PW (B p:Nat)(v:Value)(l:List Nat)(lost:Bool)(W:World):Prop where
 row:W.heap[p]?=some (.cells #[.bool true,.bool lost,v] 120 (0,0))
 own:Own W B v l
theorem EA (w:World):Calls prog 31 #[] w fun e w' =>
  e=.returned (.pointer (some ⟨w.heap.size,0,none⟩))∧PW (w.heap.size+1) w.heap.size (.slice none 0 0) [] false w'∧w'=w.alloc (.cells #[.bool true,.bool false,.slice none 0 0] 120):=by
 go_enter func31,ntmps31;go_wp2_with fail;go_ret;exact ⟨rfl,⟨aG _ _,bV _ _ _ _⟩,rfl⟩
structure Turn (p:Nat)(v v':Value)(w w':World):Prop where
 os:w'.os=w.os
 tape:w'.tape=w.tape
 output:w'.output=w.output
 size:w.heap.size≤w'.heap.size
 block:∀k,k<w.heap.size→k≠p→v.ownBlock≠some k→w'.heap[k]?=w.heap[k]?
 own:∀k,v'.ownBlock=some k→v.ownBlock=some k∨w.heap.size≤k
theorem Turn.refl (p:Nat)(v:Value)(w:World):Turn p v v w w:=⟨rfl,rfl,rfl,aB _,fun _ _ _ _=>rfl,fun _ h=>.inl h⟩
theorem Turn.trans {p:Nat}{v v' v'':Value}{w w' w'':World}(s:Turn p v v' w w')(t:Turn p v' v'' w' w''):Turn p v v'' w w'' :=
 ⟨t.os.trans s.os,t.tape.trans s.tape,t.output.trans s.output,bH s.size t.size,fun k hk hp hv=>by
  rw[t.block k (aP hk s.size) hp (fun h=>(s.own k h).elim hv (by omega)),s.block k hk hp hv],fun k hk=>by
  rcases t.own k hk with h|h
  ·exact s.own k h
  ·exact .inr (bH s.size h)⟩
theorem Turn.of_below {p:Nat}{v:Value}{w w':World}(h:Below w.heap.size w w'):Turn p v v w w':=⟨h.os,h.tape,h.output,h.size,fun k hk _ _=>h.block k hk,fun _ h=>.inl h⟩
theorem Turn.set (p j:Nat)(v u:Value)(w:World):Turn p v v w (w.setCell ⟨p,j,none⟩ u) :=
 ⟨rfl,rfl,rfl,by simp,fun k hk hp _=>aK _ _ _ _ hp,fun _ h=>.inl h⟩
theorem Turn.iL {p:Nat}{v v':Value}{w w':World}(hg:w.grownBy w' v.ownBlock)(h:∀k,v'.ownBlock=some k→v.ownBlock=some k∨w.heap.size≤k):Turn p v v' w w' :=
 ⟨hg.os,hg.tape,hg.output,hg.size,fun k hk _ hv=>hg.block k hk (fun e=>hv e.symm),h⟩
theorem Up {B:Nat}{v:Value}{l:List Nat}{w:World}(ty:TypeId)(hown:Own w B v l)(ox:Option Addr)(m:List Nat)(c:Nat)(hc:ox=none→c=0)(hb:Bs w ox m)
  (hlen:l.length+m.length≤1000000000) (hbase:B≤w.heap.size) :
  ∃v' w',(Builtin.append_ #[31,31] ty #[v,.slice ox m.length c]).run prog w=.ok v' w'∧Own w' B v' (l++m)∧w.grownBy w' v.ownBlock∧(∀k,v'.ownBlock=some k→v.ownBlock=some k∨w.heap.size≤k):=by
 obtain ⟨i0,hi,hz0,hz1,hz2⟩:=info_parts info5
 cases ox with
 | none =>
  obtain rfl:=wA hb;obtain rfl:=hc rfl;have hrun:=run_append_owned_none (P:=prog) (w:=w) B 31 ty 5 i0 1 bJ hi v l.length (l.map fO) hown;exact ⟨v,w,hrun,by rw[List.append_nil];exact hown,cG _ _,fun k h=>.inl h⟩
 | some ad =>
  obtain ⟨v',w',hr,h2,h3,_,h5⟩:=run_append_own_at (P:=prog) w B 31 ty 5 i0 (.int .u8 0) 1 1 bJ hi hz0 hz1 hz2 rfl (by decide) v l.length (l.map fO) hown ad m.length c (m.map fO) (by simp) (kO hb ad rfl) (kN m) (by unfold maxLen;omega) (by omega) hbase;refine ⟨v',w',hr,by unfold Own;rw[aI,List.map_append];exact h2,h3,fun k hk=>?_⟩
  rcases h5 with h5|h5
  ·exact .inl (h5▸hk)
  ·rw[h5] at hk
   cases hk;exact .inr (aB _)
theorem Di {F:Fence}(hF:∀f,F.fn f){n:Nat}{o:Oper}{a:Act}{K:Act→World→Prop}{Q:Exit→Act→World→Prop}{w:World}(s x:Operand)
  (ho:o.op=.call { callee:=.builtin .append,args:=#[s,x],argTypes:=#[31,31] })
  (B:Nat) (v:Value) (l:List Nat) (hs:a.eval s=v) (hown:Own w B v l) (ox:Option Addr) (m:List Nat) (c:Nat) (hx:a.eval x=.slice ox m.length c) (hc:ox=none→c=0) (hb:Bs w ox m)
  (hlen:l.length+m.length≤1000000000) (hbase:B≤w.heap.size)
  (h:∀v' w',Own w' B v' (l++m)→w.grownBy w' v.ownBlock→(∀k,v'.ownBlock=some k→v.ownBlock=some k∨w.heap.size≤k)→K (a.put o.dst v') w'):Oper.wpIn F n prog o a w K Q:=by
 unfold Oper.wpIn;rw[Oper.semAt_plain _ _ _ (by intro c e;rw[ho] at e;cases e)];refine ⟨fun _ _=>hF _,?_⟩;obtain ⟨v',w',hrun,h1,h2,h3⟩:=Up o.type hown ox m c hc hb hlen hbase;unfold execOp;simp only[ho,resolve,invoke,builtin,Sem.run_bind,Sem.run_pure,Result.andThen_ok,List.map_toArray,List.map_cons,List.map_nil,hs,hx,hrun];exact h v' w' h1 h2 h3
theorem XZ {ops:Array Oper}{rest:List Oper}{o:Oper}{a:Act}{Q:Exit→Act→World→Prop}{w:World}(hgd:o.guard=none)(s x:Operand)
  (ho:o.op=.call { callee:=.builtin .append,args:=#[s,x],argTypes:=#[31,31] })
  (B:Nat) (v:Value) (l:List Nat) (hs:a.eval s=v) (hown:Own w B v l) (ox:Option Addr) (m:List Nat) (c:Nat) (hx:a.eval x=.slice ox m.length c) (hc:ox=none→c=0) (hb:Bs w ox m)
  (hlen:l.length+m.length≤1000000000) (hbase:B≤w.heap.size)
  (h:∀v' w',Own w' B v' (l++m)→w.grownBy w' v.ownBlock→(∀k,v'.ownBlock=some k→v.ownBlock=some k∨w.heap.size≤k)→wpList prog ops Q rest (a.put o.dst v') w'):wpList prog ops Q (o::rest) a w:=by
 obtain ⟨i0,hi,hz0,hz1,hz2⟩:=info_parts info5
 cases ox with
 | none =>
  obtain rfl:=wA hb;obtain rfl:=hc rfl;refine wpList_append_own_none hgd s x 31 ho B 5 i0 1 bJ hi v l.length (l.map fO) hs hown hx ?_;exact h v w (by rw[List.append_nil];exact hown) (cG _ _) (fun k h=>.inl h)
 | some ad =>
  refine wpList_append_own_at w hgd s x 31 ho B 5 i0 (.int .u8 0) 1 1 bJ hi hz0 hz1 hz2 rfl (by decide) v l.length (l.map fO) hs hown ad m.length c (m.map fO) hx (by simp) (kO hb ad rfl) (kN m) (by unfold maxLen;omega) (by omega) hbase ?_;intro v' w' hown' hgrow _ h5;refine h v' w' (by unfold Own;rw[aI,List.map_append];exact hown') hgrow (fun k hk=>?_)
  rcases h5 with h5|h5
  ·exact .inl (h5▸hk)
  ·rw[h5] at hk
   cases hk;exact .inr (aB _)
end Pk
end Go.Proofs.YtbbhmhihpdmoiaaGreat
