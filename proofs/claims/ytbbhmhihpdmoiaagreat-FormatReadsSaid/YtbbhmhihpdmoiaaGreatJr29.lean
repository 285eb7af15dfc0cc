import Derived.Test.YtbbhmhihpdmoiaaGreatJr28
set_option linter.unusedVariables false
set_option linter.unusedSimpArgs false
set_option maxRecDepth 100000
set_option maxHeartbeats 32000000
namespace Go.Proofs.YtbbhmhihpdmoiaaGreat
namespace Fx
open Go Go.RowKit
theorem eQ {P:Program} {ops:Array Oper} {rest:List Oper} {op:Oper} {a:Act} {w:World} {Q:Exit→Act→World→Prop} (d:Option Tmp) (h:op.dst=d) (k:Hid (wpList P ops Q (op :: rest) a w)):wpList P ops Q (op :: rest) a w:=k.out
theorem TS (a b:fH) (w:World) (ha:jE a) (hb:jE b) (h:fM w a.oo a.os) (h2:fM w b.oo b.os) (h1:a.w=b.w) (h3:a.h=b.h) (h4:a.jK=b.jK) (hl:a.os.length=b.os.length) :
  Calls Tryz.prog 15 #[.agg (fZ a),.agg (fZ b)] w (gH (decide (a.os.map jC=b.os.map jC)) w):=by
 have HI:=aA (CR.new h h2)
 have hA:=aA (nY ha.len)
 have hBm:=aA (nY hb.len)
 have c0:((w.alloc (.cells (fZ a) 28)).alloc (.cells (fZ b) 28)).cell? ⟨w.heap.size,0,none⟩=some (.int .i64 a.w):=HI.out.sa.c0
 have c1:((w.alloc (.cells (fZ a) 28)).alloc (.cells (fZ b) 28)).cell? ⟨w.heap.size,1,none⟩=some (.int .i64 a.h):=HI.out.sa.c1
 have d0:((w.alloc (.cells (fZ a) 28)).alloc (.cells (fZ b) 28)).cell? ⟨w.heap.size + 1,0,none⟩=some (.int .i64 b.w):=HI.out.sb.c0
 have d1:((w.alloc (.cells (fZ a) 28)).alloc (.cells (fZ b) 28)).cell? ⟨w.heap.size + 1,1,none⟩=some (.int .i64 b.h):=HI.out.sb.c1
 have c18:((w.alloc (.cells (fZ a) 28)).alloc (.cells (fZ b) 28)).cell? ⟨w.heap.size,18,none⟩=some (.slice a.oo a.os.length a.oc):=HI.out.sa.c18 ha
 have VW:((w.alloc (.cells (fZ a) 28)).alloc (.cells (fZ b) 28)).cell? ⟨w.heap.size + 1,18,none⟩=some (.slice b.oo b.os.length b.oc):=HI.out.sb.c18 hb
 obtain ⟨V0,lI⟩:∃ V,((w.alloc (.cells (fZ a) 28)).alloc (.cells (fZ b) 28))=V:=⟨_,rfl⟩
 rw [lI] at HI c0 c1 d0 d1 c18 VW
 have qJ:=aA lI
 clear lI
 have hne:∀ W,(binOp .neq 25 (.agg (a.jK.map encI).toArray) (.agg (b.jK.map encI).toArray)).run Tryz.prog W=.ok (.bool false) W:=fun W=>by rw [rG W _ _ ha.len hb.len];simp [h4]
 have HWA:=aA ha
 have HWB:=aA hb
 have HL2:=aA hl
 have la:=hb.cap.1
 rw [h1] at c0
 rw [h3] at c1
 rw [hl] at c18
 obtain ⟨n,hn⟩:∃ n,b.os.length=n:=⟨_,rfl⟩
 have HN:=aA hn
 rw [hn] at c18 VW la
 have n0:(0:Int)≤(n:Int):=by omega
 have n3:(n:Int)≤9223372036854775807:=by omega
 clear ha hb h h2 h1 h3 h4 hl hn la
 generalize b.w=bw at c0 d0
 generalize b.h=bh at c1 d1
 go_enter Tryz.func15,Tryz.ntmps15
 go_wp2_with (first | (rw [qJ.out]) | (first | (refine eT rfl 25 (.tmp 23) rfl w.heap.size 2 rfl (a.jK.map encI) _ HI.out.sa.jK aP rfl hA.out ?_) | (refine eT rfl 25 (.tmp 25) rfl (w.heap.size + 1) 2 rfl (b.jK.map encI) _ HI.out.sb.jK aP rfl hBm.out ?_)))
 go_loopg [5,6,7,8,9] n (ZsRel a b w n)
 case atStart=>exact ⟨0,rfl,rfl,by omega,HI.out,rfl⟩
 case round =>
  clear HI c0 c1 d0 d1 c18 VW hne hA hBm qJ
  obtain ⟨k,hg,rfl,hk,LH,ht⟩:=hrel
  subst hg
  have HW:=aA LH
  have HT:=aA ht
  have k0:(0:Int)≤(k:Int):=by omega
  have c18:wr.cell? ⟨w.heap.size,18,none⟩=some (.slice a.oo n a.oc):=by rw [LH.sa.c18 HWA.out,HL2.out,HN.out]
  have VW:∀ W,CR a b w W→W.cell? ⟨w.heap.size + 1,18,none⟩=some (.slice b.oo n b.oc):=fun W hw=>by rw [hw.sb.c18 HWB.out,HN.out]
  clear ht
  by_cases hkn:k < n
  ·have t1:(k:Int) < (n:Int):=by omega
   obtain ⟨x,hx⟩:∃ x,a.os[k]?=some x:=⟨_,aJ (by have:=HL2.out;have:=HN.out;omega)⟩
   obtain ⟨y,hy⟩:∃ y,b.os[k]?=some y:=⟨_,aJ (by rw [HN.out];exact hkn)⟩
   obtain ⟨b1,f1,e1,q1⟩:=LH.oa k x hx
   obtain ⟨b2,f2,e2,q2⟩:=LH.ob k y hy
   have HX:=aA (show (a.os.map jC)[k]?=some (jC x) by simp [hx])
   have HY:=aA (show (b.os.map jC)[k]?=some (jC y) by simp [hy])
   have Q1:=aA q1
   have Q2:=aA q2
   rw [e1] at c18
   rw [e2] at VW
   clear hx hy q1 q2 e1 e2
   obtain ⟨X1,hX1⟩:∃ V,wr.alloc (.cells #[.int .i64 0,.int .i64 0,.int .i64 0,.int .i64 0,.int .i64 0,.int .i64 0,.int .i64 0,.int .i64 0,.int .i64 0,.int .i64 0,.int .i64 0,.int .i64 0,.int .i64 0,.int .i64 0,.int .i64 0,.int .i64 0,.int .i64 0,.slice none 0 0,.slice none 0 0] 73)=V:=⟨_,rfl⟩
   have r1:dR 73 wr.heap.size #[.int .i64 0,.int .i64 0,.int .i64 0,.int .i64 0,.int .i64 0,.int .i64 0,.int .i64 0,.int .i64 0,.int .i64 0,.int .i64 0,.int .i64 0,.int .i64 0,.int .i64 0,.int .i64 0,.int .i64 0,.int .i64 0,.int .i64 0,.slice none 0 0,.slice none 0 0] X1:=by rw [←hX1];exact dR.new _ _ _
   obtain ⟨X2,hX2⟩:∃ V,X1.setRow wr.heap.size (eF x).toArray=V:=⟨_,rfl⟩
   have r2:dR 73 wr.heap.size (eF x).toArray X2:=by rw [←hX2];exact r1.row _
   have hb2:Below wr.heap.size wr X2:=by rw [←hX2,←hX1];exact Below.row ((aI _ wr).alloc (aB _) _) (aB _) _
   have QR:=aA (Q2.out.below hb2).cells
   have d18b:=VW X2 (LH.up hb2)
   obtain ⟨X3,hX3⟩:∃ V,X2.alloc (.cells #[.int .i64 0,.int .i64 0,.int .i64 0,.int .i64 0,.int .i64 0,.int .i64 0,.int .i64 0,.int .i64 0,.int .i64 0,.int .i64 0,.int .i64 0,.int .i64 0,.int .i64 0,.int .i64 0,.int .i64 0,.int .i64 0,.int .i64 0,.slice none 0 0,.slice none 0 0] 73)=V:=⟨_,rfl⟩
   have r3:dR 73 X2.heap.size #[.int .i64 0,.int .i64 0,.int .i64 0,.int .i64 0,.int .i64 0,.int .i64 0,.int .i64 0,.int .i64 0,.int .i64 0,.int .i64 0,.int .i64 0,.int .i64 0,.int .i64 0,.int .i64 0,.int .i64 0,.int .i64 0,.int .i64 0,.slice none 0 0,.slice none 0 0] X3:=by rw [←hX3];exact dR.new _ _ _
   obtain ⟨X4,Kb⟩:∃ V,X3.setRow X2.heap.size (eF y).toArray=V:=⟨_,rfl⟩
   have r4:dR 73 X2.heap.size (eF y).toArray X4:=by rw [←Kb];exact r3.row _
   have hb4:Below X2.heap.size X2 X4:=by rw [←Kb,←hX3];exact Below.row ((aI _ X2).alloc (aB _) _) (aB _) _
   have Jz:=dY hb2 hb4
   have U1:=Q1.out.below Jz
   have U2:=Q2.out.below Jz
   have hz:WL a b x y wr.heap.size X2.heap.size w X4:=⟨LH.up Jz,⟨r2.below hb4,U1.wf⟩,⟨r4,U2.wf⟩,U1.wT,U2.wT,U1.IG,U2.IG⟩
   have HZ:=aA hz
   have z0:X4.cell? ⟨wr.heap.size,0,none⟩=some (.int .i64 x.id):=hz.a.c0
   have y0:X4.cell? ⟨X2.heap.size,0,none⟩=some (.int .i64 y.id):=hz.b.c0
   have z17:X4.cell? ⟨wr.heap.size,17,none⟩=some (.slice x.vo x.vs.length x.vc):=hz.a.c17
   have Ux:X4.cell? ⟨X2.heap.size,17,none⟩=some (.slice y.vo y.vs.length y.vc):=hz.b.c17
   have Ms:X4.cell? ⟨wr.heap.size,18,none⟩=some (.slice x.tq x.ts.length x.tc):=hz.a.c18
   have Uw:X4.cell? ⟨X2.heap.size,18,none⟩=some (.slice y.tq y.ts.length y.tc):=hz.b.c18
   have OU:=aA hz.a.BQ
   have Mi:=aA hz.b.BQ
   have hA:=aA (ZF U1.wf)
   have hBm:=aA (ZF U2.wf)
   have hi1:=aA (vX U1.wf)
   have hi2:=aA (vX U2.wf)
   have hj1:=aA (show (Tryz.prog.info? 73).map (·.size)=some (eF x).toArray.size by rw [aL];exact vX U1.wf)
   have hj2:=aA (show (Tryz.prog.info? 73).map (·.size)=some (eF y).toArray.size by rw [aL];exact vX U2.wf)
   have s1:=aA (show 19=(eF x).toArray.size by rw [aL];exact (eZ U1.wf).symm)
   have s2:=aA (show 19=(eF y).toArray.size by rw [aL];exact (eZ U2.wf).symm)
   have M1:=aA r1
   have M3:=aA r3
   have R1:=aA Q1.out.cells
   have Oy:=aA hX1
   have WV:=aA hX2
   have Ew:=aA hX3
   have Ox:=aA Kb
   have Fh:=aA U1.wf.len
   have HLY:=aA U2.wf.len
   have Gw:=aA (fun (e:jC x≠jC y)=>Vw HX.out HY.out e)
   have pJ:=Gw
   clear r1 r2 r3 r4 hb2 hb4 Jz U1 U2 hX1 hX2 hX3 Kb hz LH VW
   go_wp2_with (first | (with_reducible refine eQ (some 56) rfl ?_) | (first | (rw [Oy.out]) | (rw [WV.out]) | (rw [Ew.out]) | (rw [Ox.out]) | (with_reducible refine eQ (some 49) rfl ?_;refine aA ?_;refine wpList_load_mid rfl 73 (.tmp 48) rfl b1 (f1 + k * 19) rfl (eF x) _ R1.out bV rfl hi1.out ?_) | (refine dQ rfl 73 (.tmp 6) (.tmp 49) rfl wr.heap.size _ _ (eF x).toArray rfl rfl M1.out hj1.out s1.out (wC _) ?_) | (with_reducible refine eQ (some 54) rfl ?_;refine aA ?_;refine wpList_load_mid rfl 73 (.tmp 53) rfl b2 (f2 + k * 19) rfl (eF y) _ QR.out bV rfl hi2.out ?_) | (refine dQ rfl 73 (.tmp 7) (.tmp 54) rfl X2.heap.size _ _ (eF y).toArray rfl rfl M3.out hj2.out s2.out (wC _) ?_)))
   clear Oy WV Ew Ox M1 M3 R1 QR Q1 Q2 hi1 hi2 hj1 hj2 s1 s2 c18 d18b
   have Gn:=HZ.out.s
   clear Gn
   by_cases g1:x.id=y.id
   ·by_cases g2:x.m=y.m
    ·have hne:∀ W,(binOp .neq 25 (.agg (x.m.map encI).toArray) (.agg (y.m.map encI).toArray)).run Tryz.prog W=.ok (.bool false) W:=fun W=>by rw [rG W _ _ Fh.out HLY.out];simp [g2]
     by_cases g3:x.vs.length=y.vs.length
     ·by_cases g4:x.ts.length=y.ts.length
      ·obtain ⟨p,hp⟩:∃ p,y.vs.length=p:=⟨_,rfl⟩
       obtain ⟨q,hq⟩:∃ q,y.ts.length=q:=⟨_,rfl⟩
       have HP1:=aA (g3.trans hp)
       have Vp:=aA hp
       have Mf:=aA (g4.trans hq)
       have Vo:=aA hq
       have hpc:=HZ.out.b.wf.UA.1
       have hqc:=HZ.out.b.wf.YV.1
       rw [hp] at hpc
       rw [hq] at hqc
       rw [g3,hp] at z17
       rw [hp] at Ux
       rw [g4,hq] at Ms
       rw [hq] at Uw
       have HKE:=aA (fun (e1:x.vs=y.vs) (e2:x.ts=y.ts)=>YW HX.out HY.out HT.out (show jC x=jC y by unfold jC;rw [g1,g2,e1,e2]))
       rw [g1] at z0
       have p0:(0:Int)≤(p:Int):=by omega
       have p3:(p:Int)≤9223372036854775807:=by omega
       have q0:(0:Int)≤(q:Int):=by omega
       have q3:(q:Int)≤9223372036854775807:=by omega
       clear g1 g2 g3 g4 hp hq hpc hqc Gw
       generalize y.id=yi at z0 y0
       refine aA ?_
       go_wp2_with (first | (with_reducible refine eQ (some 62) rfl ?_;refine aA ?_;refine eT rfl 25 (.tmp 61) rfl wr.heap.size 1 rfl (x.m.map encI) _ OU.out aP rfl hA.out ?_) | (with_reducible refine eQ (some 64) rfl ?_;refine aA ?_;refine eT rfl 25 (.tmp 63) rfl X2.heap.size 1 rfl (y.m.map encI) _ Mi.out aP rfl hBm.out ?_))
       clear OU Mi hA hBm hne z0 y0 z17 Ux Ms Uw HT
       obtain ⟨m1,hm1⟩:∃ m,wr.heap.size=m:=⟨_,rfl⟩
       obtain ⟨m2,hm2⟩:∃ m,X2.heap.size=m:=⟨_,rfl⟩
       rw [hm1,hm2] at HZ ⊢
       clear hm1 hm2
       go_loopg [8] p (Oi a b x y m1 m2 x.vs y.vs w p)
       case atStart=>exact ⟨0,rfl,rfl,by omega,HZ.out,rfl⟩
       case round =>
        clear HZ
        obtain ⟨j,hg,rfl,hj,hz,htj⟩:=hrel
        subst hg
        have HZ:=aA hz
        have Tz:=aA htj
        have j0:(0:Int)≤(j:Int):=by omega
        have z17:wr.cell? ⟨m1,17,none⟩=some (.slice x.vo p x.vc):=by rw [hz.a.c17,HP1.out]
        clear hz htj
        by_cases hjp:j < p
        ·have t2:(j:Int) < (p:Int):=by omega
         obtain ⟨u,hu⟩:∃ u,x.vs[j]?=some u:=⟨_,aJ (by have:=HP1.out;omega)⟩
         obtain ⟨v,hv⟩:∃ v,y.vs[j]?=some v:=⟨_,aJ (by have:=Vp.out;omega)⟩
         obtain ⟨b1,f1,e1,_,wu⟩:=HZ.out.va j u hu
         obtain ⟨b2,f2,e2,_,wv⟩:=HZ.out.vb j v hv
         have RU:Hid (∀ W,gN W x.vo x.vs→W.rangeAt b1 (f1 + j * 3) (u.map encI)):=aA (fun W h=>by
          obtain ⟨b1',f1',Da,r',_⟩:=h j u hu
          rw [e1] at Da
          cases Da
          exact r')
         have RV:Hid (∀ W,gN W y.vo y.vs→W.rangeAt b2 (f2 + j * 3) (v.map encI)):=aA (fun W h=>by
          obtain ⟨b1',f1',Da,r',_⟩:=h j v hv
          rw [e2] at Da
          cases Da
          exact r')
         have hi1:=aA (show (Tryz.prog.info? 85).map (·.size)=some (u.map encI).length from (by rw [bI,wu.len];kernel_rfl))
         have hi2:=aA (show (Tryz.prog.info? 85).map (·.size)=some (v.map encI).length from (by rw [bI,wv.len];kernel_rfl))
         have E1:=aA e1
         have E2:=aA e2
         rw [e1] at z17
         clear e1 e2
         by_cases huv:u=v
         ·have HS:=aA (YW hu hv Tz.out huv)
          have hneq:∀ W,(binOp .neq 85 (.agg (u.map encI).toArray) (.agg (v.map encI).toArray)).run Tryz.prog W=.ok (.bool false) W:=fun W=>by rw [Ar W u v wu.len wv.len];simp [huv]
          clear hu hv wu wv huv
          go_wp2_with fail
          generalize wr=V at HZ ⊢
          rename_i K5 DW
          refine (bG (n:=5)).1 (fA (S:=fun X=>WL a b x y m1 m2 w X) (Z:=[]) (by kernel_rfl) (by kernel_rfl) (fun _ _ h hb=>WL.up h hb) (fun d _ _ _ _ h=>by cases d <;> exact h) (HZ.out.up (fG _ _ 1)) (fun hG qR hw0=>?_))
          refine dO [] 0 (?_) hG rfl (by kernel_rfl) hw0 (by kernel_rfl) ?_ ?_
          rotate_left
          ·intro wz hSw;(first | (go_simp;done) | (go_simp;with_reducible rfl))
          intro qQ hw1
          clear hw0 qR
          try simp only [aQ]
          refine dO [] 1 (.slice (some ⟨b1,f1,none⟩) p x.vc) hG rfl (by kernel_rfl) hw1 (by kernel_rfl) ?_ ?_
          ·intro wz hSw;have c:=hSw.a.c17;rw [E1.out,HP1.out] at c;(first | (go_simp;done) | (go_simp;with_reducible rfl))
          intro qP hw2
          clear hw1 qQ
          try simp only [aQ]
          refine dO [] 2 (?_) hG rfl (by kernel_rfl) hw2 (by kernel_rfl) ?_ ?_
          rotate_left
          ·intro wz hSw;(first | (go_simp;done) | (go_simp;with_reducible rfl))
          intro qO hw3
          clear hw2 qP
          try simp only [aQ]
          refine dO [] 3 (.pointer (some ⟨b1,f1 + j * 3,none⟩)) hG rfl (by kernel_rfl) hw3 (by kernel_rfl) ?_ ?_
          ·intro wz hSw;(first | (go_simp;done) | (go_simp;with_reducible rfl))
          intro qN hw4
          clear hw3 qO
          try simp only [aQ]
          refine dO [] 4 (.agg (u.map encI).toArray) hG rfl (by kernel_rfl) hw4 (by kernel_rfl) ?_ ?_
          ·intro wz hSw;exact gM 85 (.tmp 95) (by kernel_rfl) b1 (f1 + j * 3) (by kernel_rfl) (u.map encI) _ (RU.out _ hSw.va) dA (by kernel_rfl) hi1.out
          intro qM lK
          clear hw4 qN
          try simp only [aQ]
          refine dO [] 5 (?_) hG rfl (by kernel_rfl) lK (by kernel_rfl) ?_ ?_
          rotate_left
          ·intro wz hSw;(first | (go_simp;done) | (go_simp;with_reducible rfl))
          intro qL kP
          clear lK qM
          try simp only [aQ]
          refine dO [] 6 (.slice (some ⟨b2,f2,none⟩) p y.vc) hG rfl (by kernel_rfl) kP (by kernel_rfl) ?_ ?_
          ·intro wz hSw;have c:=hSw.b.c17;rw [E2.out,Vp.out] at c;(first | (go_simp;done) | (go_simp;with_reducible rfl))
          intro pQ hw7
          clear kP qL
          try simp only [aQ]
          refine dO [] 7 (?_) hG rfl (by kernel_rfl) hw7 (by kernel_rfl) ?_ ?_
          rotate_left
          ·intro wz hSw;(first | (go_simp;done) | (go_simp;with_reducible rfl))
          intro rA hw8
          clear hw7 pQ
          try simp only [aQ]
          refine dO [] 8 (.pointer (some ⟨b2,f2 + j * 3,none⟩)) hG rfl (by kernel_rfl) hw8 (by kernel_rfl) ?_ ?_
          ·intro wz hSw;(first | (go_simp;done) | (go_simp;with_reducible rfl))
          intro qZ mH
          clear hw8 rA
          try simp only [aQ]
          refine dO [] 9 (.agg (v.map encI).toArray) hG rfl (by kernel_rfl) mH (by kernel_rfl) ?_ ?_
          ·intro wz hSw;exact gM 85 (.tmp 100) (by kernel_rfl) b2 (f2 + j * 3) (by kernel_rfl) (v.map encI) _ (RV.out _ hSw.vb) dA (by kernel_rfl) hi2.out
          intro jM iF
          clear mH qZ
          try simp only [aQ]
          refine dO [] 10 (.bool false) hG rfl (by kernel_rfl) iF (by kernel_rfl) ?_ ?_
          ·intro wz hSw;(first | (go_simp;done) | (go_simp;with_reducible rfl))
          intro kW iN
          clear iF jM
          try simp only [aQ]
          refine fF (by kernel_rfl) (?_) _
          refine DW _ _ ?_
          have HZ2:=aA iN
          clear iN hG HZ DW
          go_wp2_with fail
          go_roundg (p - (j + 1))
          case measure=>omega
          case rel=>exact ⟨j + 1,rfl,by go_num,by omega,HZ2.out,HS.out⟩
         ·have HR:=aA (pJ.out (fun e=>huv (by have h:=congrArg (fun z=>z.2.2.1) e;rw [show x.vs=y.vs from h,hv] at hu;exact (bF hu).symm)))
          have hneq:∀ W,(binOp .neq 85 (.agg (u.map encI).toArray) (.agg (v.map encI).toArray)).run Tryz.prog W=.ok (.bool true) W:=fun W=>by rw [Ar W u v wu.len wv.len];simp [huv]
          clear hu hv wu wv huv
          go_wp2_with fail
          generalize wr=V at HZ ⊢
          rename_i K5 DW
          refine (bG (n:=5)).1 (fA (S:=fun X=>WL a b x y m1 m2 w X) (Z:=[]) (by kernel_rfl) (by kernel_rfl) (fun _ _ h hb=>WL.up h hb) (fun d _ _ _ _ h=>by cases d <;> exact h) (HZ.out.up (fG _ _ 1)) (fun hG qR hw0=>?_))
          refine dO [] 0 (?_) hG rfl (by kernel_rfl) hw0 (by kernel_rfl) ?_ ?_
          rotate_left
          ·intro wz hSw;(first | (go_simp;done) | (go_simp;with_reducible rfl))
          intro qQ hw1
          clear hw0 qR
          try simp only [aQ]
          refine dO [] 1 (.slice (some ⟨b1,f1,none⟩) p x.vc) hG rfl (by kernel_rfl) hw1 (by kernel_rfl) ?_ ?_
          ·intro wz hSw;have c:=hSw.a.c17;rw [E1.out,HP1.out] at c;(first | (go_simp;done) | (go_simp;with_reducible rfl))
          intro qP hw2
          clear hw1 qQ
          try simp only [aQ]
          refine dO [] 2 (?_) hG rfl (by kernel_rfl) hw2 (by kernel_rfl) ?_ ?_
          rotate_left
          ·intro wz hSw;(first | (go_simp;done) | (go_simp;with_reducible rfl))
          intro qO hw3
          clear hw2 qP
          try simp only [aQ]
          refine dO [] 3 (.pointer (some ⟨b1,f1 + j * 3,none⟩)) hG rfl (by kernel_rfl) hw3 (by kernel_rfl) ?_ ?_
          ·intro wz hSw;(first | (go_simp;done) | (go_simp;with_reducible rfl))
          intro qN hw4
          clear hw3 qO
          try simp only [aQ]
          refine dO [] 4 (.agg (u.map encI).toArray) hG rfl (by kernel_rfl) hw4 (by kernel_rfl) ?_ ?_
          ·intro wz hSw;exact gM 85 (.tmp 95) (by kernel_rfl) b1 (f1 + j * 3) (by kernel_rfl) (u.map encI) _ (RU.out _ hSw.va) dA (by kernel_rfl) hi1.out
          intro qM lK
          clear hw4 qN
          try simp only [aQ]
          refine dO [] 5 (?_) hG rfl (by kernel_rfl) lK (by kernel_rfl) ?_ ?_
          rotate_left
          ·intro wz hSw;(first | (go_simp;done) | (go_simp;with_reducible rfl))
          intro qL kP
          clear lK qM
          try simp only [aQ]
          refine dO [] 6 (.slice (some ⟨b2,f2,none⟩) p y.vc) hG rfl (by kernel_rfl) kP (by kernel_rfl) ?_ ?_
          ·intro wz hSw;have c:=hSw.b.c17;rw [E2.out,Vp.out] at c;(first | (go_simp;done) | (go_simp;with_reducible rfl))
          intro pQ hw7
          clear kP qL
          try simp only [aQ]
          refine dO [] 7 (?_) hG rfl (by kernel_rfl) hw7 (by kernel_rfl) ?_ ?_
          rotate_left
          ·intro wz hSw;(first | (go_simp;done) | (go_simp;with_reducible rfl))
          intro rA hw8
          clear hw7 pQ
          try simp only [aQ]
          refine dO [] 8 (.pointer (some ⟨b2,f2 + j * 3,none⟩)) hG rfl (by kernel_rfl) hw8 (by kernel_rfl) ?_ ?_
          ·intro wz hSw;(first | (go_simp;done) | (go_simp;with_reducible rfl))
          intro qZ mH
          clear hw8 rA
          try simp only [aQ]
          refine dO [] 9 (.agg (v.map encI).toArray) hG rfl (by kernel_rfl) mH (by kernel_rfl) ?_ ?_
          ·intro wz hSw;exact gM 85 (.tmp 100) (by kernel_rfl) b2 (f2 + j * 3) (by kernel_rfl) (v.map encI) _ (RV.out _ hSw.vb) dA (by kernel_rfl) hi2.out
          intro jM iF
          clear mH qZ
          try simp only [aQ]
          refine dO [] 10 (.bool true) hG rfl (by kernel_rfl) iF (by kernel_rfl) ?_ ?_
          ·intro wz hSw;(first | (go_simp;done) | (go_simp;with_reducible rfl))
          intro kW iN
          clear iF jM
          try simp only [aQ]
          refine fF (by kernel_rfl) (?_) _
          refine DW _ _ ?_
          have HZ2:=aA iN
          clear iN hG HZ DW
          go_wp2_with fail
          go_ret
          exact ⟨by rw [HR.out];first | rfl | simp,HZ2.out.s.jI⟩
        ·obtain rfl:j=p:=by omega
         have t2:¬ (j:Int) < (j:Int):=by omega
         have HV:Hid (x.vs=y.vs):=aA (by have h:=Tz.out;rw [bO (by rw [HP1.out];omega),bO (by rw [Vp.out];omega)] at h;exact h)
         clear Tz
         go_wp2_with fail
         clear z17
         go_loopg [9] q (Oi a b x y m1 m2 x.ts y.ts w q)
         case atStart=>exact ⟨0,rfl,rfl,by omega,HZ.out,rfl⟩
         case round =>
          clear HZ
          obtain ⟨i,hg,rfl,hi,hz,hti⟩:=hrel
          subst hg
          have HZ:=aA hz
          have Tz:=aA hti
          have i0:(0:Int)≤(i:Int):=by omega
          have Ms:wr.cell? ⟨m1,18,none⟩=some (.slice x.tq q x.tc):=by rw [hz.a.c18,Mf.out]
          clear hz hti
          by_cases hiq:i < q
          ·have t3:(i:Int) < (q:Int):=by omega
           obtain ⟨u,hu⟩:∃ u,x.ts[i]?=some u:=⟨_,aJ (by have:=Mf.out;omega)⟩
           obtain ⟨v,hv⟩:∃ v,y.ts[i]?=some v:=⟨_,aJ (by have:=Vo.out;omega)⟩
           obtain ⟨b1,f1,e1,_,wu⟩:=HZ.out.ta i u hu
           obtain ⟨b2,f2,e2,_,wv⟩:=HZ.out.tb i v hv
           have RU:Hid (∀ W,iL W x.tq x.ts→W.rangeAt b1 (f1 + i * 4) (fV u)):=aA (fun W h=>by
            obtain ⟨b1',f1',Da,r',_⟩:=h i u hu
            rw [e1] at Da
            cases Da
            exact r')
           have RV:Hid (∀ W,iL W y.tq y.ts→W.rangeAt b2 (f2 + i * 4) (fV v)):=aA (fun W h=>by
            obtain ⟨b1',f1',Da,r',_⟩:=h i v hv
            rw [e2] at Da
            cases Da
            exact r')
           have hi1:=aA (show (Tryz.prog.info? 87).map (·.size)=some (fV u).length by kernel_rfl)
           have hi2:=aA (show (Tryz.prog.info? 87).map (·.size)=some (fV v).length by kernel_rfl)
           have E1:=aA e1
           have E2:=aA e2
           rw [e1] at Ms
           clear e1 e2
           by_cases huv:u=v
           ·have HS:=aA (YW hu hv Tz.out huv)
            have hneq:∀ W,(binOp .neq 87 (.agg (fV u).toArray) (.agg (fV v).toArray)).run Tryz.prog W=.ok (.bool false) W:=fun W=>by rw [QJ W u v];simp [huv]
            clear hu hv wu wv huv
            go_wp2_with fail
            generalize wr=V at HZ ⊢
            rename_i K5 DW
            refine (bG (n:=5)).1 (fA (S:=fun X=>WL a b x y m1 m2 w X) (Z:=[]) (by kernel_rfl) (by kernel_rfl) (fun _ _ h hb=>WL.up h hb) (fun d _ _ _ _ h=>by cases d <;> exact h) (HZ.out.up (fG _ _ 1)) (fun hG qR hw0=>?_))
            refine dO [] 0 (?_) hG rfl (by kernel_rfl) hw0 (by kernel_rfl) ?_ ?_
            rotate_left
            ·intro wz hSw;(first | (go_simp;done) | (go_simp;with_reducible rfl))
            intro qQ hw1
            clear hw0 qR
            try simp only [aQ]
            refine dO [] 1 (.slice (some ⟨b1,f1,none⟩) q x.tc) hG rfl (by kernel_rfl) hw1 (by kernel_rfl) ?_ ?_
            ·intro wz hSw;have c:=hSw.a.c18;rw [E1.out,Mf.out] at c;(first | (go_simp;done) | (go_simp;with_reducible rfl))
            intro qP hw2
            clear hw1 qQ
            try simp only [aQ]
            refine dO [] 2 (?_) hG rfl (by kernel_rfl) hw2 (by kernel_rfl) ?_ ?_
            rotate_left
            ·intro wz hSw;(first | (go_simp;done) | (go_simp;with_reducible rfl))
            intro qO hw3
            clear hw2 qP
            try simp only [aQ]
            refine dO [] 3 (.pointer (some ⟨b1,f1 + i * 4,none⟩)) hG rfl (by kernel_rfl) hw3 (by kernel_rfl) ?_ ?_
            ·intro wz hSw;(first | (go_simp;done) | (go_simp;with_reducible rfl))
            intro qN hw4
            clear hw3 qO
            try simp only [aQ]
            refine dO [] 4 (.agg (fV u).toArray) hG rfl (by kernel_rfl) hw4 (by kernel_rfl) ?_ ?_
            ·intro wz hSw;exact gM 87 (.tmp 113) (by kernel_rfl) b1 (f1 + i * 4) (by kernel_rfl) (fV u) _ (RU.out _ hSw.ta) cZ (by kernel_rfl) hi1.out
            intro qM lK
            clear hw4 qN
            try simp only [aQ]
            refine dO [] 5 (?_) hG rfl (by kernel_rfl) lK (by kernel_rfl) ?_ ?_
            rotate_left
            ·intro wz hSw;(first | (go_simp;done) | (go_simp;with_reducible rfl))
            intro qL kP
            clear lK qM
            try simp only [aQ]
            refine dO [] 6 (.slice (some ⟨b2,f2,none⟩) q y.tc) hG rfl (by kernel_rfl) kP (by kernel_rfl) ?_ ?_
            ·intro wz hSw;have c:=hSw.b.c18;rw [E2.out,Vo.out] at c;(first | (go_simp;done) | (go_simp;with_reducible rfl))
            intro pQ hw7
            clear kP qL
            try simp only [aQ]
            refine dO [] 7 (?_) hG rfl (by kernel_rfl) hw7 (by kernel_rfl) ?_ ?_
            rotate_left
            ·intro wz hSw;(first | (go_simp;done) | (go_simp;with_reducible rfl))
            intro rA hw8
            clear hw7 pQ
            try simp only [aQ]
            refine dO [] 8 (.pointer (some ⟨b2,f2 + i * 4,none⟩)) hG rfl (by kernel_rfl) hw8 (by kernel_rfl) ?_ ?_
            ·intro wz hSw;(first | (go_simp;done) | (go_simp;with_reducible rfl))
            intro qZ mH
            clear hw8 rA
            try simp only [aQ]
            refine dO [] 9 (.agg (fV v).toArray) hG rfl (by kernel_rfl) mH (by kernel_rfl) ?_ ?_
            ·intro wz hSw;exact gM 87 (.tmp 118) (by kernel_rfl) b2 (f2 + i * 4) (by kernel_rfl) (fV v) _ (RV.out _ hSw.tb) cZ (by kernel_rfl) hi2.out
            intro jM iF
            clear mH qZ
            try simp only [aQ]
            refine dO [] 10 (.bool false) hG rfl (by kernel_rfl) iF (by kernel_rfl) ?_ ?_
            ·intro wz hSw;(first | (go_simp;done) | (go_simp;with_reducible rfl))
            intro kW iN
            clear iF jM
            try simp only [aQ]
            refine fF (by kernel_rfl) (?_) _
            refine DW _ _ ?_
            have HZ2:=aA iN
            clear iN hG HZ DW
            go_wp2_with fail
            go_roundg (q - (i + 1))
            case measure=>omega
            case rel=>exact ⟨i + 1,rfl,by go_num,by omega,HZ2.out,HS.out⟩
           ·have HR:=aA (pJ.out (fun e=>huv (by have h:=congrArg (fun z=>z.2.2.2) e;rw [show x.ts=y.ts from h,hv] at hu;exact (bF hu).symm)))
            have hneq:∀ W,(binOp .neq 87 (.agg (fV u).toArray) (.agg (fV v).toArray)).run Tryz.prog W=.ok (.bool true) W:=fun W=>by rw [QJ W u v];simp [huv]
            clear hu hv wu wv huv
            go_wp2_with fail
            generalize wr=V at HZ ⊢
            rename_i K5 DW
            refine (bG (n:=5)).1 (fA (S:=fun X=>WL a b x y m1 m2 w X) (Z:=[]) (by kernel_rfl) (by kernel_rfl) (fun _ _ h hb=>WL.up h hb) (fun d _ _ _ _ h=>by cases d <;> exact h) (HZ.out.up (fG _ _ 1)) (fun hG qR hw0=>?_))
            refine dO [] 0 (?_) hG rfl (by kernel_rfl) hw0 (by kernel_rfl) ?_ ?_
            rotate_left
            ·intro wz hSw;(first | (go_simp;done) | (go_simp;with_reducible rfl))
            intro qQ hw1
            clear hw0 qR
            try simp only [aQ]
            refine dO [] 1 (.slice (some ⟨b1,f1,none⟩) q x.tc) hG rfl (by kernel_rfl) hw1 (by kernel_rfl) ?_ ?_
            ·intro wz hSw;have c:=hSw.a.c18;rw [E1.out,Mf.out] at c;(first | (go_simp;done) | (go_simp;with_reducible rfl))
            intro qP hw2
            clear hw1 qQ
            try simp only [aQ]
            refine dO [] 2 (?_) hG rfl (by kernel_rfl) hw2 (by kernel_rfl) ?_ ?_
            rotate_left
            ·intro wz hSw;(first | (go_simp;done) | (go_simp;with_reducible rfl))
            intro qO hw3
            clear hw2 qP
            try simp only [aQ]
            refine dO [] 3 (.pointer (some ⟨b1,f1 + i * 4,none⟩)) hG rfl (by kernel_rfl) hw3 (by kernel_rfl) ?_ ?_
            ·intro wz hSw;(first | (go_simp;done) | (go_simp;with_reducible rfl))
            intro qN hw4
            clear hw3 qO
            try simp only [aQ]
            refine dO [] 4 (.agg (fV u).toArray) hG rfl (by kernel_rfl) hw4 (by kernel_rfl) ?_ ?_
            ·intro wz hSw;exact gM 87 (.tmp 113) (by kernel_rfl) b1 (f1 + i * 4) (by kernel_rfl) (fV u) _ (RU.out _ hSw.ta) cZ (by kernel_rfl) hi1.out
            intro qM lK
            clear hw4 qN
            try simp only [aQ]
            refine dO [] 5 (?_) hG rfl (by kernel_rfl) lK (by kernel_rfl) ?_ ?_
            rotate_left
            ·intro wz hSw;(first | (go_simp;done) | (go_simp;with_reducible rfl))
            intro qL kP
            clear lK qM
            try simp only [aQ]
            refine dO [] 6 (.slice (some ⟨b2,f2,none⟩) q y.tc) hG rfl (by kernel_rfl) kP (by kernel_rfl) ?_ ?_
            ·intro wz hSw;have c:=hSw.b.c18;rw [E2.out,Vo.out] at c;(first | (go_simp;done) | (go_simp;with_reducible rfl))
            intro pQ hw7
            clear kP qL
            try simp only [aQ]
            refine dO [] 7 (?_) hG rfl (by kernel_rfl) hw7 (by kernel_rfl) ?_ ?_
            rotate_left
            ·intro wz hSw;(first | (go_simp;done) | (go_simp;with_reducible rfl))
            intro rA hw8
            clear hw7 pQ
            try simp only [aQ]
            refine dO [] 8 (.pointer (some ⟨b2,f2 + i * 4,none⟩)) hG rfl (by kernel_rfl) hw8 (by kernel_rfl) ?_ ?_
            ·intro wz hSw;(first | (go_simp;done) | (go_simp;with_reducible rfl))
            intro qZ mH
            clear hw8 rA
            try simp only [aQ]
            refine dO [] 9 (.agg (fV v).toArray) hG rfl (by kernel_rfl) mH (by kernel_rfl) ?_ ?_
            ·intro wz hSw;exact gM 87 (.tmp 118) (by kernel_rfl) b2 (f2 + i * 4) (by kernel_rfl) (fV v) _ (RV.out _ hSw.tb) cZ (by kernel_rfl) hi2.out
            intro jM iF
            clear mH qZ
            try simp only [aQ]
            refine dO [] 10 (.bool true) hG rfl (by kernel_rfl) iF (by kernel_rfl) ?_ ?_
            ·intro wz hSw;(first | (go_simp;done) | (go_simp;with_reducible rfl))
            intro kW iN
            clear iF jM
            try simp only [aQ]
            refine fF (by kernel_rfl) (?_) _
            refine DW _ _ ?_
            have HZ2:=aA iN
            clear iN hG HZ DW
            go_wp2_with fail
            go_ret
            exact ⟨by rw [HR.out];first | rfl | simp,HZ2.out.s.jI⟩
          ·obtain rfl:i=q:=by omega
           have t3:¬ (i:Int) < (i:Int):=by omega
           have HT2:Hid (x.ts=y.ts):=aA (by have h:=Tz.out;rw [bO (by rw [Mf.out];omega),bO (by rw [Vo.out];omega)] at h;exact h)
           clear Tz
           go_wp2_with fail
           go_roundg (n - (k + 1))
           case measure=>omega
           case rel=>exact ⟨k + 1,rfl,by go_num,by omega,HZ.out.s,HKE.out HV.out HT2.out⟩
      ·have HR:=aA (Gw.out (fun e=>g4 (congrArg List.length (congrArg (fun z=>z.2.2.2) e))))
       rw [g1] at z0
       rw [g3] at z17
       have g5:¬ (x.ts.length:Int)=(y.ts.length:Int):=by omega
       clear g1 g2 g3 g4 Gw
       generalize y.id=yi at z0 y0
       generalize y.vs.length=yn at z17 Ux
       generalize y.ts.length=yt at Uw g5
       generalize x.ts.length=xt at Ms g5
       refine aA ?_
       go_wp2_with (first | (with_reducible refine eQ (some 62) rfl ?_;refine aA ?_;refine eT rfl 25 (.tmp 61) rfl wr.heap.size 1 rfl (x.m.map encI) _ OU.out aP rfl hA.out ?_) | (with_reducible refine eQ (some 64) rfl ?_;refine aA ?_;refine eT rfl 25 (.tmp 63) rfl X2.heap.size 1 rfl (y.m.map encI) _ Mi.out aP rfl hBm.out ?_))
       go_ret
       exact ⟨by rw [HR.out];first | rfl | simp,HZ.out.s.jI⟩
     ·have HR:=aA (Gw.out (fun e=>g3 (congrArg List.length (congrArg (fun z=>z.2.2.1) e))))
      rw [g1] at z0
      have g5:¬ (x.vs.length:Int)=(y.vs.length:Int):=by omega
      clear g1 g2 g3 Ms Uw Gw
      generalize y.id=yi at z0 y0
      generalize y.vs.length=yn at Ux g5
      generalize x.vs.length=xn at z17 g5
      refine aA ?_
      go_wp2_with (first | (with_reducible refine eQ (some 62) rfl ?_;refine aA ?_;refine eT rfl 25 (.tmp 61) rfl wr.heap.size 1 rfl (x.m.map encI) _ OU.out aP rfl hA.out ?_) | (with_reducible refine eQ (some 64) rfl ?_;refine aA ?_;refine eT rfl 25 (.tmp 63) rfl X2.heap.size 1 rfl (y.m.map encI) _ Mi.out aP rfl hBm.out ?_))
      go_ret
      exact ⟨by rw [HR.out];first | rfl | simp,HZ.out.s.jI⟩
    ·have hne:∀ W,(binOp .neq 25 (.agg (x.m.map encI).toArray) (.agg (y.m.map encI).toArray)).run Tryz.prog W=.ok (.bool true) W:=fun W=>by rw [rG W _ _ Fh.out HLY.out];simp [g2]
     have HR:=aA (Gw.out (fun e=>g2 (congrArg (fun z=>z.2.1) e)))
     rw [g1] at z0
     clear g1 g2 z17 Ux Ms Uw Gw
     generalize y.id=yi at z0 y0
     refine aA ?_
     go_wp2_with (first | (with_reducible refine eQ (some 62) rfl ?_;refine aA ?_;refine eT rfl 25 (.tmp 61) rfl wr.heap.size 1 rfl (x.m.map encI) _ OU.out aP rfl hA.out ?_) | (with_reducible refine eQ (some 64) rfl ?_;refine aA ?_;refine eT rfl 25 (.tmp 63) rfl X2.heap.size 1 rfl (y.m.map encI) _ Mi.out aP rfl hBm.out ?_))
     go_ret
     exact ⟨by rw [HR.out];first | rfl | simp,HZ.out.s.jI⟩
   ·have HR:=aA (Gw.out (fun e=>g1 (congrArg (fun z=>z.1) e)))
    clear z17 Ux Ms Uw Gw
    generalize y.id=yi at y0 g1
    generalize x.id=xi at z0 g1
    refine aA ?_
    go_wp2_with (first | (with_reducible refine eQ (some 62) rfl ?_;refine aA ?_;refine eT rfl 25 (.tmp 61) rfl wr.heap.size 1 rfl (x.m.map encI) _ OU.out aP rfl hA.out ?_) | (with_reducible refine eQ (some 64) rfl ?_;refine aA ?_;refine eT rfl 25 (.tmp 63) rfl X2.heap.size 1 rfl (y.m.map encI) _ Mi.out aP rfl hBm.out ?_))
    go_ret
    exact ⟨by rw [HR.out];first | rfl | simp,HZ.out.s.jI⟩
  ·obtain rfl:k=n:=by omega
   have t1:¬ (k:Int) < (k:Int):=by omega
   have HR:=aA (Pz (a:=a.os.map jC) (b:=b.os.map jC) (by rw [bI];exact HL2.out.trans HN.out) (by rw [bI];exact HN.out) HT.out)
   clear LH VW
   go_wp2_with fail
   go_ret
   exact ⟨by rw [HR.out];first | rfl | simp,HW.out.jI⟩
end Fx
end Go.Proofs.YtbbhmhihpdmoiaaGreat
