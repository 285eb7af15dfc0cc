import Derived.Test.YtbbhmhihpdmoiaaGreatJf20
set_option linter.unusedVariables false
set_option linter.unusedSimpArgs false
set_option maxRecDepth 100000
set_option maxHeartbeats 32000000
namespace Go.Proofs.YtbbhmhihpdmoiaaGreat
open Go.Proofs.Tryz
namespace Fx
open Go Go.RowKit Go.Lib
open Pk (form fold Bs By)
theorem Bf (n:Nat):fU (n:Int)=form n:=by
 unfold fU;rw[show ((n:Int)).toNat=n by omega]
structure Qh (p:Nat)(s:eF)(l:List Nat)(w W:World):Prop where
 box:eZ w.heap.size s W
 wr:Ch p l W
 gL:Below w.heap.size w W
 hp:w.heap.size<p
theorem eZ.grown {B:Nat}{s:eF}{W X:World}{m:Nat}(h:eZ B s W)(hg:W.grownBy X (some m))(e:B≠m):eZ B s X:=by
 have h1:dI 28 B (eU s) W:=h;exact fA h1 hg e
theorem Qh.step {p:Nat}{s:eF}{l l':List Nat}{w W X:World}{e:Ending}(i:Qh p s l w W)(h:vU p l' W e X):Qh p s l' w X :=
 ⟨i.box.grown h.2.2 (by have:=i.hp;omega),h.2.1,i.gL.grown h.2.2 i.gL.size (fun k hk=>by cases hk;have:=i.hp;omega),i.hp⟩
theorem Qh.up {p:Nat}{s:eF}{l:List Nat}{w W X:World}(i:Qh p s l w W)(h:Below W.heap.size W X):Qh p s l w X :=
 ⟨i.box.below h,i.wr.below h,dN i.gL h,i.hp⟩
structure OX (p b:Nat)(s:eF)(x:eE)(l:List Nat)(w W:World):Prop where
 sc:Qh p s l w W
 row:dI 73 b (dP x).toArray W
 ne:b≠p
theorem OX.step {p b:Nat}{s:eF}{x:eE}{l l':List Nat}{w W X:World}{e:Ending}(i:OX p b s x l w W)(h:vU p l' W e X):OX p b s x l' w X :=
 ⟨i.sc.step h,fA i.row h.2.2 i.ne,i.ne⟩
theorem OX.up {p b:Nat}{s:eF}{x:eE}{l:List Nat}{w W X:World}(i:OX p b s x l w W)(h:Below W.heap.size W X):OX p b s x l w X :=
 ⟨i.sc.up h,dL h i.row,i.ne⟩
theorem OX.cells {p b:Nat}{s:eF}{x:eE}{l:List Nat}{w W:World}(i:OX p b s x l w W):W.rangeAt b 0 (dP x):=fun j u hj=>by
 rw[bE,aD _ _ _ _ _ _ i.row]
 simpa using hj
def KX (s:eF)(w:World)(e:Ending)(w':World):Prop:=(∃v,e=.returned (.tuple #[v,.int .i64 (erE (qI s))])∧Pk.Own w' w.heap.size v ((qI s).getD []))∧Below w.heap.size w w'
theorem Ow (z:Int):(fI z).length≤11:=(Pk.gP _).2
theorem KO {α:Type}{f:α→List Nat}{l:List α}{k:Nat}{x:α}(h:l[k]?=some x):(l.take (k+1)).flatMap f=(l.take k).flatMap f++f x:=by
 rw[bX,h,List.flatMap_append];simp
theorem Dk {v:List Int}(h:v.length=3):∃a b c,v=[a,b,c]:=by
 match v,h with
 | [a,b,c],_=>exact ⟨a,b,c,rfl⟩
theorem PI (s:eF)(w:World)(hs:iA s)(h:eN w s.oo s.os) :
  Calls prog 13 #[.agg (eU s)] w (KX s w):=by
 obtain ⟨V0,jR⟩:∃V,w.alloc (.cells (eU s) 28)=V:=⟨_,rfl⟩;have hb0:Below w.heap.size w V0:=by rw[←jR];exact (aJ _ w).alloc (aB _) _
 have Zd:=aA (show eZ w.heap.size s V0 by rw[←jR];exact eZ.new _ _);have CH:=aA hb0;have GR:=aA (show V0.heap.size=w.heap.size+1 by rw[←jR];simp);have jA:=aA (fun X (hb:Below w.heap.size w X)=>h.below hb);have HS:=aA hs;have hall:=aA (CR hs);have HC:=aA (CK s V0 hs (h.below hb0));have UM:=aA (fun (ho:mK s=true)=>vZ hs h ho);have oJ:=aA jR;have Ss:Hid (V0.rangeAt w.heap.size 0 (fP s)):=aA (fun j u hj=>by rw[bE];exact Zd.out.at.trans hj);clear h hs hb0 jR
 cases jS:mK s with
 | false =>
  have HE:=aA (show qI s=none by unfold qI;rw[jS];rfl);rw[jS] at HC;simp only[bD,if_false] at HC;clear jS UM;go_enter func13,ntmps13;go_wp2_with (first|(rw[oJ.out])|(with_reducible refine dQ (some 10) rfl ?_;refine aA ?_;refine wpList_load_mid rfl 28 (.tmp 1) rfl w.heap.size 0 rfl (fP s) _ Ss.out aW rfl hall.out ?_))
  refine HC.out.mono ?_;rintro e w1 ⟨rfl,hb⟩;have HB:=aA (dN CH.out hb);clear hb HC oJ;go_wp2_with fail;go_ret2;refine ⟨⟨_,by rw[HE.out];rfl,by rw[HE.out];exact bV _ _ _ _⟩,HB.out⟩
 | true =>
  have HE:=aA (show qI s=some (jO (eQ s)) by unfold qI;rw[jS];rfl);have HD:=aA (UM.out jS);rw[jS] at HC;simp only[if_true] at HC;clear jS UM;go_enter func13,ntmps13;go_wp2_with (first|(rw[oJ.out])|(with_reducible refine dQ (some 10) rfl ?_;refine aA ?_;refine wpList_load_mid rfl 28 (.tmp 1) rfl w.heap.size 0 rfl (fP s) _ Ss.out aW rfl hall.out ?_))
  refine HC.out.mono ?_;rintro e w1 ⟨rfl,hb1⟩;have jK:=aA (dN CH.out hb1);have HBX1:=aA (Zd.out.below hb1);have wS:Hid (w.heap.size<w1.heap.size):=aA (by have:=hb1.size;have:=GR.out;omega);obtain ⟨C,hC⟩:∃C:Array Value,#[.int .u8 109,.int .u8 117,.int .u8 108,.int .u8 49]=C:=⟨_,rfl⟩;obtain ⟨W1,hW1⟩:∃V,w1.alloc (.cells C 5 (C.size,C.size+1))=V:=⟨_,rfl⟩;obtain ⟨W2,hW2⟩:∃V,W1.alloc (.cells #[.slice (some ⟨w1.heap.size,0,none⟩) 4 4,.bool false] 81)=V:=⟨_,rfl⟩;have JC:=aA (run_convert_bytes_const (P:=prog) w1 31 5 C 4 4 bJ (by kernel_rfl));rw[hW1] at JC;have hr1:W1.heap[w1.heap.size]?=some (.cells C 5 (C.size,C.size+1)):=by rw[←hW1];exact aG _ _
  have Ny:Bs W1 (some ⟨w1.heap.size,0,none⟩) fS:=Lu (by rw[hr1,←hC];rfl);have z1:W1.heap.size=w1.heap.size+1:=by rw[←hW1];simp
  have hb2:Below w1.heap.size w1 W1:=by rw[←hW1];exact (aJ _ _).alloc (aB _) _
  have hb3:Below W1.heap.size W1 W2:=by rw[←hW2];exact (aJ _ _).alloc (aB _) _
  have hr2:W2.heap[W1.heap.size]?=some (.cells #[.slice (some ⟨w1.heap.size,0,none⟩) 4 4,.bool false] 81 (0,0)):=by rw[←hW2];exact aG _ _
  obtain ⟨p,hp⟩:∃p,W1.heap.size=p:=⟨_,rfl⟩;rw[hp] at hr2;have HP:=aA (show w.heap.size<p by have:=wS.out;omega);have BO:=dN (dN jK.out hb2) hb3;have hbx2:=(HBX1.out.below hb2).below hb3;have pH:=aA (Pk.JG p s.w 64 fS W2 HD.out.1.1 HD.out.1.2 (by have:=HD.out.1.2;unfold eQ at this;dsimp only at this;omega) (by decide) (some ⟨w1.heap.size,0,none⟩) 4 hr2 (Ny.below hb3) (fun e=>by cases e));have mI:=aA BO;have HBX2:=aA hbx2;have c0:W2.cell? ⟨w.heap.size,0,none⟩=some (.int .i64 s.w):=hbx2.c0;have HCC:=aA hC;have Ik:=aA (show W1.alloc (.cells #[.slice (some ⟨w1.heap.size,0,none⟩) 4 4,.bool false] 81)=W2 from hW2);have qg:=aA hp;clear hb1 hC hW1 hW2 hr1 Ny z1 hb2 hb3 hr2 BO hbx2 hp HC oJ CH Zd GR Ss jK HBX1 wS;go_wp2_with (first|(rw[HCC.out];rw[JC.out])|(rw[Ik.out])|(rw[qg.out]))
  refine pH.out.mono ?_;rintro e y1 qP;obtain rfl:=qP.1;have PF:Hid (Qh p s (fS++fU s.w) w y1):=aA ⟨HBX2.out.grown qP.2.2 (by have:=HP.out;omega),qP.2.1,mI.out.grown qP.2.2 mI.out.size (fun k hk=>by cases hk;have:=HP.out;omega),HP.out⟩;clear qP pH c0 JC HCC Ik qg mI HBX2;have hcam:=aA (Kc HS.out);have c1:y1.cell? ⟨w.heap.size,1,none⟩=some (.int .i64 s.h):=PF.out.box.c1;obtain ⟨L1,hL1⟩:∃L,fS++fU s.w=L:=⟨_,rfl⟩;have h1l:L1.length≤15:=by
   rw[←hL1,aI];have:=eT s.w;have : fS.length=4:=rfl;omega
  rw[hL1] at PF;have rW:=aA (tE p s.h 64 L1 y1 HD.out.2.1.1 HD.out.2.1.2 (by decide) (by omega) PF.out.wr);go_wp2_with fail;clear c1;refine rW.out.mono ?_;rintro e y2 rH;obtain rfl:=rH.1;have YM:=aA (PF.out.step rH);have h2l:(L1++fU s.h).length≤30:=by rw[aI];have:=eT s.h;omega
  have qT:=aA (PG p s.jN (L1++fU s.h) y2 HD.out.2.2.1 (by omega) YM.out.wr);clear rH rW PF;go_wp2_with (with_reducible refine dQ (some 29) rfl ?_;refine aA ?_;refine wpList_load_mid rfl 25 (.tmp 28) rfl w.heap.size 2 rfl (s.jN.map encI) _ YM.out.box.jN aU rfl hcam.out ?_)
  refine qT.out.mono ?_;rintro e y3 xX;obtain rfl:=xX.1;have GX:=aA (YM.out.step xX);have h3l:(L1++fU s.h++eW s.jN).length≤300:=by
   rw[aI];have:=gA s.jN;have : s.jN.length=16:=HS.out.len;omega
  obtain ⟨n,hn⟩:∃n,s.os.length=n:=⟨_,rfl⟩;have HN:=aA hn;have n16:n≤16:=by have h:=HD.out.2.2.2.1;unfold eQ at h;simp only[aT] at h;omega
  have n0:(0:Int)≤(n:Int):=by omega
  have n1:(n:Int)≤16:=by omega
  have su:=aA (fun (W:World) (l':List Nat) (i:Qh p s l' w W)=>show W.cell? ⟨w.heap.size,18,none⟩=some (.slice s.oo n s.oc) by rw[i.box.c18 HS.out,hn]);have c18:=su.out y3 _ GX.out;have HC4:=aA (tE p (n:Int) 16 _ y3 n0 n1 (by decide) (bH h3l (by decide)) GX.out.wr);have gR:=HS.out.cap.1;rw[hn] at gR;clear xX qT YM hn;go_wp2_with fail;clear c18;refine HC4.out.mono ?_;rintro e y4 NC;obtain rfl:=NC.1;have JA:=aA (GX.out.step NC);clear NC HC4 GX;obtain ⟨L4,hL4⟩:∃L,L1++fU s.h++eW s.jN++fU (n:Int)=L:=⟨_,rfl⟩;rw[hL4] at JA;have HL4:Hid (L4.length≤400):=aA (by rw[←hL4,aI];have:=eT (n:Int);omega);have jD:Hid (L4++(s.os.map eX).flatMap lZ=fS++KR (eQ s)):=aA (by
   rw[←hL4,←hL1,←HN.out];unfold KR mA eQ;simp only[bM,aT])
  have HDO:Hid (∀x∈s.os,XS (eX x)):=aA (fun x hx=>HD.out.2.2.2.2 (eX x) (List.mem_map.2 ⟨x,hx,rfl⟩));clear hL4 hL1 h1l h2l h3l hcam;go_wp2_with fail;go_loopg[6] n (fun g s6 wx=>∃k:Nat,g=n-k∧s6=.int .i64 (k:Int)∧k≤n∧Qh p s (L4++((s.os.take k).map eX).flatMap lZ) w wx)
  case atStart=>exact ⟨0,rfl,rfl,by omega,by have:=JA.out;simpa using this⟩
  case round =>
   obtain ⟨k,rfl,rfl,hk,hj⟩:=hrel;obtain ⟨wo,Me⟩:∃X,X=wr:=⟨_,rfl⟩;subst Me;have HJ:=aA hj;clear hj JA;have k0:(0:Int)≤(k:Int):=by omega
   have c18:=su.out wo _ HJ.out;by_cases pK:k<n
   ·have t2:(k:Int)<(n:Int):=by omega
    obtain ⟨x,hx⟩:∃x,s.os[k]?=some x:=⟨_,aF (by rw[HN.out];exact pK)⟩;have OS:=aX hx;obtain ⟨b,off,zU,hat⟩:=jA.out wo HJ.out.gL k x hx;rw[zU] at c18;obtain ⟨V1,hV1⟩:∃V,wo.alloc (.cells #[.int .i64 0,.int .i64 0,.int .i64 0,.int .i64 0,.int .i64 0,.int .i64 0,.int .i64 0,.int .i64 0,.int .i64 0,.int .i64 0,.int .i64 0,.int .i64 0,.int .i64 0,.int .i64 0,.int .i64 0,.int .i64 0,.int .i64 0,.slice none 0 0,.slice none 0 0] 73)=V:=⟨_,rfl⟩;obtain ⟨V2,hV2⟩:∃V,V1.setRow wo.heap.size (dP x).toArray=V:=⟨_,rfl⟩;have r1:dI 73 wo.heap.size #[.int .i64 0,.int .i64 0,.int .i64 0,.int .i64 0,.int .i64 0,.int .i64 0,.int .i64 0,.int .i64 0,.int .i64 0,.int .i64 0,.int .i64 0,.int .i64 0,.int .i64 0,.int .i64 0,.int .i64 0,.int .i64 0,.int .i64 0,.slice none 0 0,.slice none 0 0] V1:=by rw[←hV1];exact dI.new _ _ _
    have r2:dI 73 wo.heap.size (dP x).toArray V2:=by rw[←hV2];exact r1.row _
    have b2:Below wo.heap.size wo V2:=by rw[←hV2,←hV1];exact Below.row ((aJ _ _).alloc (aB _) _) (aB _) _
    have sY:=hat.wf;obtain ⟨LA,hLA⟩:∃L,L4++((s.os.take k).map eX).flatMap lZ=L:=⟨_,rfl⟩;have hd:=HDO.out x OS;have HLA:Hid (LA.length≤100000):=aA (by
     rw[←hLA,aI];have h1:=jQ (f:=lZ) (c:=6000) ((s.os.take k).map eX) (fun y hy=>by
      obtain ⟨z,hz,rfl⟩:=List.mem_map.1 hy;exact FC (HDO.out z (cI hz)))
     have h2:((s.os.take k).map eX).length≤16:=by rw[aT,bT];omega
     have:=HL4.out;omega)
    have Yn:Hid (L4++((s.os.take (k+1)).map eX).flatMap lZ=LA++lZ (eX x)):=aA (by
     rw[←hLA,bX,hx,List.map_append,List.flatMap_append,bM];simp)
    rw[hLA] at HJ;have sX:Hid (OX p wo.heap.size s x LA w V2):=aA ⟨HJ.out.up b2,r2,by have:=HJ.out.wr.lt;omega⟩;have qj:=aA hat.cells;have Sw:Hid (∀X,Below w.heap.size w X→fH X x.vo x.vs∧gM X x.tq x.ts):=aA (fun X hX=>by
     obtain ⟨_,_,_,Fi⟩:=jA.out X hX k x hx;exact ⟨Fi.sT,Fi.zM⟩)
    have GU:=aA sY;have Td:=aA hd;have Nk:=aA (show (prog.info? 73).map (·.size)=some (dP x).length by rw[dX sY];kernel_rfl);have NH:=aA (show (prog.info? 73).map (·.size)=some (dP x).toArray.size by rw[aL,dX sY];kernel_rfl);have SP:=aA (show 19=(dP x).toArray.size by rw[aL,dX sY]);have SN:Hid ((dP x).toArray.all (·.oneCell')=true):=aA (by rw[List.all_toArray,bU];exact fun u hu=>lU x u hu);have him:=aA (show (prog.info? 25).map (·.size)=some (x.m.map encI).length by rw[aT,sY.len];kernel_rfl);have qQ:=aA r1;have vF:=aA hV1;have oM:=aA hV2;have x0:V2.cell? ⟨wo.heap.size,0,none⟩=some (.int .i64 x.id):=sX.out.cells 0 _ (uW x);have HC5:=aA (tE p x.id 65535 LA V2 hd.1.1 hd.1.2 (by decide) (by have:=HLA.out;omega) sX.out.sc.wr);clear hx OS zU hat r1 r2 b2 sY hLA hd hV1 hV2 HJ;go_wp2_with (first|(rw[vF.out])|(rw[oM.out])|(with_reducible refine dQ (some 47) rfl ?_;refine aA ?_;refine wpList_load_mid rfl 73 (.tmp 46) rfl b (off+k*19) rfl (dP x) _ qj.out bW rfl Nk.out ?_)|(refine dG rfl 73 (.tmp 7) (.tmp 47) rfl wo.heap.size _ _ (dP x).toArray rfl rfl qQ.out NH.out SP.out SN.out ?_))
    clear x0 c18;refine HC5.out.mono ?_;rintro e y5 SF;obtain rfl:=SF.1;have OL:=aA (sX.out.step SF);have hm6:y5.rangeAt wo.heap.size 1 (x.m.map encI):=fun i v hi=>by
     have h1:=OL.out.cells (1+i) v (DX hi)
     rwa [bE] at h1
    have HM6:=aA hm6;have l6:(LA++fU x.id).length≤101000:=by rw[aI];have:=eT x.id;have:=HLA.out;omega
    have HC6:=aA (PG p x.m (LA++fU x.id) y5 Td.out.2.1 (by omega) OL.out.sc.wr);clear SF HC5 sX hm6 vF oM qQ qj;go_wp2_with (with_reducible refine dQ (some 54) rfl ?_;refine aA ?_;refine wpList_load_mid rfl 25 (.tmp 53) rfl wo.heap.size 1 rfl (x.m.map encI) _ HM6.out aU rfl him.out ?_)
    refine HC6.out.mono ?_;rintro e y6 hp6;obtain rfl:=hp6.1;have HJ7:=aA (OL.out.step hp6);have l7:(LA++fU x.id++eW x.m).length≤102000:=by rw[aI];have:=gA x.m;have:=GU.out.len;omega
    obtain ⟨mv,hmv⟩:∃m,x.vs.length=m:=⟨_,rfl⟩;obtain ⟨mt,hmt⟩:∃m,x.ts.length=m:=⟨_,rfl⟩;have HMV:=aA hmv;have HMT:=aA hmt;have v64:mv≤64:=by have:=Td.out.2.2.1.1;rw[←hmv];exact this
    have t64:mt≤64:=by have:=Td.out.2.2.2.1;rw[←hmt];exact this
    have v0:(0:Int)≤(mv:Int):=by omega
    have v1:(mv:Int)≤64:=by omega
    have u0:(0:Int)≤(mt:Int):=by omega
    have u1:(mt:Int)≤64:=by omega
    have hcv:=GU.out.LJ.1;have hct:=GU.out.ID.1;rw[hmv] at hcv;rw[hmt] at hct;have C17:=aA (fun (W:World) (l':List Nat) (i:OX p wo.heap.size s x l' w W)=>show W.cell? ⟨wo.heap.size,17,none⟩=some (.slice x.vo mv x.vc) by have:=i.cells 17 _ (nB GU.out);rwa [hmv] at this);have C19:=aA (fun (W:World) (l':List Nat) (i:OX p wo.heap.size s x l' w W)=>show W.cell? ⟨wo.heap.size,18,none⟩=some (.slice x.tq mt x.tc) by have:=i.cells 18 _ (nC GU.out);rwa [hmt] at this);have c17:=C17.out y6 _ HJ7.out;have HC7:=aA (tE p (mv:Int) 64 _ y6 v0 v1 (by decide) (bH l7 (by decide)) HJ7.out.sc.wr);clear hp6 HC6 OL HM6 hmv hmt;go_wp2_with fail;clear c17;refine HC7.out.mono ?_;rintro e y7 hp7;obtain rfl:=hp7.1;have HJ8:=aA (HJ7.out.step hp7);obtain ⟨LB,hLB⟩:∃L,LA++fU x.id++eW x.m++fU (mv:Int)=L:=⟨_,rfl⟩;rw[hLB] at HJ8;have HLB:Hid (LB.length≤103000):=aA (by rw[←hLB,aI];have:=eT (mv:Int);omega);clear hp7 HC7 HJ7;go_wp2_with fail;go_loopg[8] mv (fun g s8 wx=>∃j:Nat,g=mv-j∧s8=.int .i64 (j:Int)∧j≤mv∧OX p wo.heap.size s x (LB++(x.vs.take j).flatMap eW) w wx)
    case atStart=>exact ⟨0,rfl,rfl,by omega,by have:=HJ8.out;simpa using this⟩
    case round =>
     obtain ⟨j,rfl,rfl,hjm,hi⟩:=hrel;obtain ⟨w8,kH⟩:∃X,X=wr:=⟨_,rfl⟩;subst kH;have HI:=aA hi;clear hi HJ8;have j0:(0:Int)≤(j:Int):=by omega
     have c17:=C17.out w8 _ HI.out;by_cases hjv:j<mv
     ·have t3:(j:Int)<(mv:Int):=by omega
      obtain ⟨v,hv⟩:∃v,x.vs[j]?=some v:=⟨_,aF (by rw[HMV.out];exact hjv)⟩;obtain ⟨b2,off2,av,hvat,Mj⟩:=(Sw.out _ HI.out.sc.gL).1 j v hv;have oM:Hid (∀X,Below w.heap.size w X→X.rangeAt b2 (off2+j*3) (v.map encI)):=aA (fun X hX=>by
       obtain ⟨b',o',e',h',_⟩:=(Sw.out X hX).1 j v hv;rw[av] at e'
       cases e'
       exact h')
      obtain ⟨va,vb,vc,rfl⟩:=Dk Mj.len;have IW:Hid ((x.vs.take (j+1)).flatMap eW=(x.vs.take j).flatMap eW++(fI va++(fI vb++fI vc))):=aA (by
       rw[KO hv];simp[eW])
      have hna:Num va:=Mj.num 0;have hnb:Num vb:=Mj.num 1;have hnc:Num vc:=Mj.num 2;rw[av] at c17;have CV:=aA (fun (W:World) (l':List Nat) (i:OX p wo.heap.size s x l' w W)=>show W.cell? ⟨wo.heap.size,17,none⟩=some (.slice (some ⟨b2,off2,none⟩) mv x.vc) by have:=C17.out W l' i;rwa [av] at this);have a0:w8.cell? ⟨b2,off2+j*3,none⟩=some (.int .i64 va):=oM.out _ HI.out.sc.gL 0 _ rfl;obtain ⟨LD,hLD⟩:∃L,LB++(x.vs.take j).flatMap eW=L:=⟨_,rfl⟩;have HLD:Hid (LD.length≤120000):=aA (by
       rw[←hLD,aI];have h1:=jQ (f:=eW) (c:=33) (x.vs.take j) (fun y hy=>by
        have:=gA y;have h3:y.length=3:=(Td.out.2.2.1.2 y (cI hy)).1;omega)
       have h2:(x.vs.take j).length≤64:=by rw[bT];omega
       have:=HLB.out;omega)
      rw[hLD] at HI;have HC8:=aA (LH p va LD w8 hna (by have:=HLD.out;omega) HI.out.sc.wr);clear hv hvat Mj av;go_wp2_with fail;clear c17 a0;refine HC8.out.mono ?_;rintro e y8 hp8;obtain rfl:=hp8.1;have HI8:=aA (HI.out.step hp8);have c17:=CV.out y8 _ HI8.out;have a1:y8.cell? ⟨b2,off2+j*3+1,none⟩=some (.int .i64 vb):=oM.out _ HI8.out.sc.gL 1 _ rfl;have l8:(LD++fI va).length≤121000:=by rw[aI];have:=Ow va;have:=HLD.out;omega
      have HC9:=aA (LH p vb _ y8 hnb (bH l8 (by decide)) HI8.out.sc.wr);clear hp8 HC8 HI;go_wp2_with fail;clear c17 a1;refine HC9.out.mono ?_;rintro e y9 hp9;obtain rfl:=hp9.1;have HI9:=aA (HI8.out.step hp9);have c17:=CV.out y9 _ HI9.out;have a2:y9.cell? ⟨b2,off2+j*3+2,none⟩=some (.int .i64 vc):=oM.out _ HI9.out.sc.gL 2 _ rfl;have l9:(LD++fI va++fI vb).length≤122000:=by rw[aI];have:=Ow vb;omega
      have HC10:=aA (LH p vc _ y9 hnc (bH l9 (by decide)) HI9.out.sc.wr);clear hp9 HC9 HI8;go_wp2_with fail;clear c17 a2;refine HC10.out.mono ?_;rintro e y10 hp10;obtain rfl:=hp10.1;have HI10:Hid (OX p wo.heap.size s x (LB++(x.vs.take (j+1)).flatMap eW) w y10):=aA (by
       rw[IW.out,←bM,hLD,←bM,←bM];exact HI9.out.step hp10)
      clear hp10 HC10 HI9;go_wp2_with fail;go_roundg (mv-(j+1))
      case measure=>omega
      case rel=>exact ⟨j+1,rfl,by go_num,by omega,HI10.out⟩
     ·obtain rfl:j=mv:=by omega
      have t3:¬ (j:Int)<(j:Int):=by omega
      have YN:Hid (OX p wo.heap.size s x (LB++x.vs.flatMap eW) w w8):=aA (by have:=HI.out;rwa [bB (by rw[HMV.out];omega)] at this);have lV:(LB++x.vs.flatMap eW).length≤120000:=by
       rw[aI];have h1:=jQ (f:=eW) (c:=33) x.vs (fun y hy=>by
        have:=gA y;have h3:y.length=3:=(Td.out.2.2.1.2 y hy).1;omega)
       have:=HLB.out;have:=HMV.out;omega
      have c19:=C19.out w8 _ YN.out;have HC11:=aA (tE p (mt:Int) 64 _ w8 u0 u1 (by decide) (bH lV (by decide)) YN.out.sc.wr);clear HI;go_wp2_with fail;clear c17 c19;refine HC11.out.mono ?_;rintro e y11 hp11;obtain rfl:=hp11.1;have HI11:=aA (YN.out.step hp11);obtain ⟨LC,hLC⟩:∃L,LB++x.vs.flatMap eW++fU (mt:Int)=L:=⟨_,rfl⟩;rw[hLC] at HI11;have HLC:Hid (LC.length≤121000):=aA (by rw[←hLC,aI];have:=eT (mt:Int);omega);clear hp11 HC11 YN;go_wp2_with fail;go_loopg[9] mt (fun g s9 wx=>∃i:Nat,g=mt-i∧s9=.int .i64 (i:Int)∧i≤mt∧OX p wo.heap.size s x (LC++(x.ts.take i).flatMap pA) w wx)
      case atStart=>exact ⟨0,rfl,rfl,by omega,by have:=HI11.out;simpa using this⟩
      case round =>
       obtain ⟨i,rfl,rfl,him2,hi⟩:=hrel;obtain ⟨w9,lI⟩:∃X,X=wr:=⟨_,rfl⟩;subst lI;have HT:=aA hi;clear hi HI11;have i0:(0:Int)≤(i:Int):=by omega
       have c19:=C19.out w9 _ HT.out;by_cases hit:i<mt
       ·have t4:(i:Int)<(mt:Int):=by omega
        obtain ⟨t,ht⟩:∃t,x.ts[i]?=some t:=⟨_,aF (by rw[HMT.out];exact hit)⟩;obtain ⟨b3,WO,hto,htat,htwf⟩:=(Sw.out _ HT.out.sc.gL).2 i t ht;have oq:Hid (∀X,Below w.heap.size w X→X.rangeAt b3 (WO+i*4) (fC t)):=aA (fun X hX=>by
         obtain ⟨b',o',e',h',_⟩:=(Sw.out X hX).2 i t ht;rw[hto] at e'
         cases e'
         exact h')
        have hdt:Gk t:=Td.out.2.2.2.2 t (aX ht);have HST:=aA (KO (f:=pA) ht);obtain ⟨⟨ha0,ha1⟩,⟨hb0,hb1⟩,⟨hc0,hc1⟩,hcl0,hcl1⟩:=hdt;obtain ⟨cl,Av⟩:=Int.eq_ofNat_of_zero_le hcl0;rw[hto] at c19;have CT:=aA (fun (W:World) (l':List Nat) (i:OX p wo.heap.size s x l' w W)=>show W.cell? ⟨wo.heap.size,18,none⟩=some (.slice (some ⟨b3,WO,none⟩) mt x.tc) by have:=C19.out W l' i;rwa [hto] at this);have a0:w9.cell? ⟨b3,WO+i*4,none⟩=some (.int .i64 t.a):=oq.out _ HT.out.sc.gL 0 _ rfl;obtain ⟨LE,hLE⟩:∃L,LC++(x.ts.take i).flatMap pA=L:=⟨_,rfl⟩;have HLE:Hid (LE.length≤130000):=aA (by
         rw[←hLE,aI];have h1:=jQ (f:=pA) (c:=44) (x.ts.take i) (fun y hy=>EZ y);have h2:(x.ts.take i).length≤64:=by rw[bT];omega
         have:=HLC.out;omega)
        rw[hLE] at HT;have HC12:=aA (tE p t.a 63 LE w9 ha0 ha1 (by decide) (by have:=HLE.out;omega) HT.out.sc.wr);clear ht htat htwf hto;go_wp2_with fail;clear c19 a0;refine HC12.out.mono ?_;rintro e y12 hp12;obtain rfl:=hp12.1;have Qv:=aA (HT.out.step hp12);have c19:=CT.out y12 _ Qv.out;have a1:y12.cell? ⟨b3,WO+i*4+1,none⟩=some (.int .i64 t.b):=oq.out _ Qv.out.sc.gL 1 _ rfl;have l12:(LE++fU t.a).length≤131000:=by rw[aI];have:=eT t.a;have:=HLE.out;omega
        have HC13:=aA (tE p t.b 63 _ y12 hb0 hb1 (by decide) (bH l12 (by decide)) Qv.out.sc.wr);clear hp12 HC12 HT;go_wp2_with fail;clear c19 a1;refine HC13.out.mono ?_;rintro e y13 hp13;obtain rfl:=hp13.1;have Qu:=aA (Qv.out.step hp13);have c19:=CT.out y13 _ Qu.out;have a2:y13.cell? ⟨b3,WO+i*4+2,none⟩=some (.int .i64 t.c):=oq.out _ Qu.out.sc.gL 2 _ rfl;have l13:(LE++fU t.a++fU t.b).length≤132000:=by rw[aI];have:=eT t.b;omega
        have HC14:=aA (tE p t.c 63 _ y13 hc0 hc1 (by decide) (bH l13 (by decide)) Qu.out.sc.wr);clear hp13 HC13 Qv;go_wp2_with fail;clear c19 a2;refine HC14.out.mono ?_;rintro e y14 hp14;obtain rfl:=hp14.1;have Qt:=aA (Qu.out.step hp14);have c19:=CT.out y14 _ Qt.out;have a3:y14.cell? ⟨b3,WO+i*4+3,none⟩=some (.int .u32 (cl:Int)):=by rw[←Av];exact oq.out _ Qt.out.sc.gL 3 _ rfl
        have l14:(LE++fU t.a++fU t.b++fU t.c).length≤133000:=by rw[aI];have:=eT t.c;omega
        have cl1:(cl:Int)≤4294967295:=by rw[←Av];exact hcl1
        have cl0:(0:Int)≤(cl:Int):=by omega
        have HC15:=aA (uf p cl _ y14 (by omega) (bH l14 (by decide)) Qt.out.sc.wr);have Ro:Hid (form cl=fU t.col):=aA (by rw[Av,Bf]);clear hp14 HC14 Qu Av hcl0 hcl1;go_wp2_with fail;clear c19 a3;refine HC15.out.mono ?_;rintro e y15 hp15;obtain rfl:=hp15.1;have HT15:Hid (OX p wo.heap.size s x (LC++(x.ts.take (i+1)).flatMap pA) w y15):=aA (by
         rw[HST.out,←bM,hLE];unfold pA;rw[←Ro.out,←bM,←bM,←bM];exact Qt.out.step hp15)
        clear hp15 HC15 Qt;go_wp2_with fail;go_roundg (mt-(i+1))
        case measure=>omega
        case rel=>exact ⟨i+1,rfl,by go_num,by omega,HT15.out⟩
       ·obtain rfl:i=mt:=by omega
        have t4:¬ (i:Int)<(i:Int):=by omega
        have HN9:Hid (Qh p s (L4++((s.os.take (k+1)).map eX).flatMap lZ) w w9):=aA (by
         have h1:=HT.out.sc;rw[bB (by rw[HMT.out];omega)] at h1;have e1:L4++((s.os.take (k+1)).map eX).flatMap lZ=LC++x.ts.flatMap pA:=by
          rw[Yn.out,←hLC,←hLB];unfold lZ mA eX;rw[HMV.out,HMT.out];simp only[bM]
         rw[e1];exact h1)
        clear HT;go_wp2_with fail;go_roundg (n-(k+1))
        case measure=>omega
        case rel=>exact ⟨k+1,rfl,by go_num,by omega,HN9.out⟩
   ·obtain rfl:k=n:=by omega
    have t2:¬ (k:Int)<(k:Int):=by omega
    have lJ:=HJ.out.wr;rw[bB (by rw[HN.out];omega),jD.out] at lJ;obtain ⟨v,hrow,hown⟩:=lJ;obtain ⟨o5,c5,rfl,Nw,hc5,hc5m,hn5,_⟩:=hown.open;have hby:By (fS++KR (eQ s)):=fun z hz=>by
     rcases bS.1 hz with hz|hz
     ·exact tM z hz
     ·exact NR.bytes _ HD.out z hz
    have hlen:(fS++KR (eQ s)).length≤100000:=by
     have:=(NT HD.out).2;rw[aI];have : fS.length=4:=rfl;omega
    have p0:wo.cell? ⟨p,0,none⟩=some (.slice o5 (fS++KR (eQ s)).length c5):=(aD _ _ _ _ _ _ hrow).trans rfl;have UJ:=aA (show Calls prog 39 #[.slice o5 (fS++KR (eQ s)).length c5] wo fun e w'=>(∃v,e=.returned v∧Pk.Own w' wo.heap.size v (jO (eQ s)))∧Below wo.heap.size wo w' from Cx.JW (fS++KR (eQ s)) o5 c5 wo (TS hby) (by omega) hn5 (TT Nw));have Rq:=aA HJ.out.gL;generalize (fS++KR (eQ s)).length=nl at p0 UJ;clear hrow hown Nw hc5 hc5m hn5 hby hlen HJ;go_wp2_with fail;clear p0 c18;refine UJ.out.mono ?_;rintro e zz ⟨⟨v6,rfl,gy⟩,KL⟩;have HR:=aA (show KX s w (.returned (.tuple #[v6,.int .i64 0])) zz by
     unfold KX;rw[HE.out];exact ⟨⟨v6,rfl,gy.mono Rq.out.size⟩,dN Rq.out KL⟩)
    clear gy KL UJ;go_wp2_with fail;go_ret2;exact HR.out
end Fx
namespace Fx
open Go Go.RowKit Go.Lib
open Pk (form Bs By)
theorem Tj (p:Nat)(m l:List Nat)(o:Option Addr)(c:Nat)(w:World)(hc:o=none→c=0)(hb:Bs w o m)(hm:m.length≤65536)(hl:l.length≤90000000)(h:Ch p l w) :
  Calls prog 54 #[.pointer (some ⟨p,0,none⟩),.slice o m.length c,.int .i64 65536] w (vU p (l++nO m) w):=by
 have:=Pk.Cz 0 p m 65536 l false true o c w (cK _) (bA (by omega)) hc hb (by omega) (by omega) h;have e:Pk.lS l (form m.length++m) false true=l++nO m:=by
  unfold nO;rw[Bf];rfl
 rw[e] at this;exact this
structure Xx (p:Nat)(l:List Nat)(w W:World):Prop where
 wr:Ch p l W
 gL:Below w.heap.size w W
 hp:w.heap.size≤p
theorem Xx.step {p:Nat}{l l':List Nat}{w W X:World}{e:Ending}(i:Xx p l w W)(h:vU p l' W e X):Xx p l' w X :=
 ⟨h.2.1,i.gL.grown h.2.2 i.gL.size (fun k hk=>by cases hk;exact i.hp),i.hp⟩
theorem Xx.up {p:Nat}{l:List Nat}{w W X:World}(i:Xx p l w W)(h:Below W.heap.size W X):Xx p l w X :=
 ⟨i.wr.below h,dN i.gL h,i.hp⟩
theorem Dd (xs:List eF)(o:Option Addr)(c:Nat)(w:World)(hc:pJ o xs.length c)(h:pE w o xs)(hm:xs.length≤100→xs.all mK=true→(oZ (xs.map eQ)).length≤900000) :
  Calls prog 23 #[.slice o xs.length c] w (oA xs w):=by
 obtain ⟨n,hn⟩:∃n,xs.length=n:=⟨_,rfl⟩;have HN:=aA hn;have hc1:=hc.1;by_cases h1:100<n
 ·have t1:(100:Int)<(n:Int):=by omega
  have HE:Hid (oA xs w (.returned (.tuple #[.slice none 0 0,.int .i64 2])) w):=aA (by
   have e:mL xs=(none,2):=by unfold mL;rw[aZ (by omega)]
   unfold oA;rw[e];exact ⟨⟨_,rfl,bV _ _ _ _⟩,aJ _ _⟩)
  rw[hn] at hc1 ⊢;clear h hc hm hn h1;go_enter func23,ntmps23;go_wp2_with fail;go_ret2;exact HE.out
 ·have t1:¬ (100:Int)<(n:Int):=by omega
  have n100:n≤100:=by omega
  have n0:(0:Int)≤(n:Int):=by omega
  have n1:(n:Int)≤100:=by omega
  have qO:Hid (∀X,xs.all mK=false→Below w.heap.size w X→oA xs w (.returned (.tuple #[.slice none 0 0,.int .i64 60])) X):=aA (fun X ha hb=>by
   have e:mL xs=(none,60):=by unfold mL;rw[bF (by omega),bF (by rw[ha];decide)]
   unfold oA;rw[e];exact ⟨⟨_,rfl,bV _ _ _ _⟩,hb⟩)
  have xV:Hid (∀X v,xs.all mK=true→Pk.Own X w.heap.size v (iK (fQ++rG n xs n))→Below w.heap.size w X→oA xs w (.returned (.tuple #[v,.int .i64 0])) X):=aA (fun X v ha ho hb=>by
   have e:mL xs=(some (FL (xs.map eQ)),0):=by unfold mL;rw[bF (by omega),aZ ha]
   unfold oA;rw[e];refine ⟨⟨_,rfl,?_⟩,hb⟩;have : rG n xs n=oZ (xs.map eQ):=by unfold rG oZ;rw[bB (by omega),aT,hn]
   rw[this] at ho;exact ho)
  have CG:Hid (xs.all mK=true→(rG n xs n).length≤900000):=aA (fun ha=>by
   have:=hm (by omega) ha
   rwa [show oZ (xs.map eQ)=rG n xs n by unfold rG oZ;rw[bB (by omega),aT,hn]] at this)
  have Ss:=aA h;have Te:Hid (∀k,(xs.take k).all mK=true→∀z∈(xs.take k).map eQ,Gl z):=aA (fun k ha z hz=>by
   obtain ⟨s,hs,rfl⟩:=List.mem_map.1 hz;obtain ⟨i,hi⟩:=List.getElem?_of_mem (cI hs);obtain ⟨b,off,_,hat⟩:=h i s hi;exact vZ hat.wf hat.objs (bU.1 ha s hs))
  have HFU:=aA (eT (n:Int));rw[hn] at hc1 ⊢;obtain ⟨C,hC⟩:∃C:Array Value,#[.int .u8 109,.int .u8 117,.int .u8 108,.int .u8 102]=C:=⟨_,rfl⟩;obtain ⟨W1,hW1⟩:∃V,w.alloc (.cells C 5 (C.size,C.size+1))=V:=⟨_,rfl⟩;obtain ⟨W2,hW2⟩:∃V,W1.alloc (.cells #[.slice (some ⟨w.heap.size,0,none⟩) 4 4,.bool false] 81)=V:=⟨_,rfl⟩;have JC:=aA (run_convert_bytes_const (P:=prog) w 31 5 C 4 4 bJ (by kernel_rfl));rw[hW1] at JC;have hr1:W1.heap[w.heap.size]?=some (.cells C 5 (C.size,C.size+1)):=by rw[←hW1];exact aG _ _
  have Ny:Bs W1 (some ⟨w.heap.size,0,none⟩) fQ:=Lu (by rw[hr1,←hC];rfl);have z1:W1.heap.size=w.heap.size+1:=by rw[←hW1];simp
  have hb2:Below w.heap.size w W1:=by rw[←hW1];exact (aJ _ _).alloc (aB _) _
  have hb3:Below W1.heap.size W1 W2:=by rw[←hW2];exact (aJ _ _).alloc (aB _) _
  have hr2:W2.heap[W1.heap.size]?=some (.cells #[.slice (some ⟨w.heap.size,0,none⟩) 4 4,.bool false] 81 (0,0)):=by rw[←hW2];exact aG _ _
  obtain ⟨p,hp⟩:∃p,W1.heap.size=p:=⟨_,rfl⟩;rw[hp] at hr2;have HP:=aA (show w.heap.size≤p by omega);have pH:=aA (Pk.JG p (n:Int) 100 fQ W2 n0 n1 (by omega) (by decide) (some ⟨w.heap.size,0,none⟩) 4 hr2 (Ny.below hb3) (fun e=>by cases e));have mI:=aA (dN hb2 hb3);have HCC:=aA hC;have Ik:=aA (show W1.alloc (.cells #[.slice (some ⟨w.heap.size,0,none⟩) 4 4,.bool false] 81)=W2 from hW2);have qg:=aA hp;clear h hc hm hn h1 hC hW1 hW2 hr1 Ny z1 hb2 hb3 hr2 hp;go_enter func23,ntmps23;go_wp2_with (first|(rw[HCC.out];rw[JC.out])|(rw[Ik.out])|(rw[qg.out]))
  refine pH.out.mono ?_;rintro e y1 qP;obtain rfl:=qP.1;have GX:Hid (Xx p (fQ++rG n xs 0) w y1):=aA ⟨by have h3:=qP.2.1;unfold rG;rw[List.take_zero,List.map_nil,List.flatMap_nil,List.append_nil];exact h3,mI.out.grown qP.2.2 mI.out.size (fun k hk=>by cases hk;exact HP.out),HP.out⟩;clear qP pH JC HCC Ik qg mI;go_wp2_with fail;go_loopg[5] n (fun g s9 wx=>∃k:Nat,g=n-k∧s9=.int .i64 (k:Int)∧k≤n∧(xs.take k).all mK=true∧Xx p (fQ++rG n xs k) w wx)
  case atStart=>exact ⟨0,rfl,rfl,by omega,rfl,GX.out⟩
  case round =>
   obtain ⟨k,rfl,rfl,hk,ha,hj⟩:=hrel;obtain ⟨wo,Me⟩:∃X,X=wr:=⟨_,rfl⟩;subst Me;have HA:=aA ha;have HJ:=aA hj;clear ha hj GX;have k0:(0:Int)≤(k:Int):=by omega
   have HL9:Hid ((fQ++rG n xs k).length≤90000000):=aA (by
    have h1:=uE (Te.out k HA.out);have h2:((xs.take k).map eQ).length≤100:=by rw[aT,bT];omega
    have h3:=HFU.out;have h4:fQ.length=4:=rfl;unfold rG;rw[aI,aI];omega)
   by_cases pK:k<n
   ·have t2:(k:Int)<(n:Int):=by omega
    obtain ⟨x,hx⟩:∃x,xs[k]?=some x:=⟨_,aF (by rw[HN.out];exact pK)⟩;obtain ⟨b,off,rfl,lX⟩:=Ss.out k x hx;have hat:=lX.below HJ.out.gL;have HX:=aA hat;have hi:=aA (oU hat.wf);have pG:=aA (show Calls prog 13 #[.agg (fP x).toArray] wo (KX x wo) from PI x wo hat.wf hat.objs);have Td:=aA (fun (ho:mK x=true)=>vZ hat.wf hat.objs ho);have Yn:=aA (RJ (n:=n) hx);have HAS:Hid ((xs.take (k+1)).all mK=mK x):=aA (by rw[bX,hx,List.all_append,HA.out];simp);have HNA:Hid (mK x=false→xs.all mK=false):=aA (fun h0=>by
     rw[List.all_eq_false];exact ⟨x,aX hx,by rw[h0];decide⟩)
    clear lX hat hx
    cases jS:mK x with
    | false =>
     have he:qI x=none:=by unfold qI;rw[jS];rfl
     unfold KX at pG;rw[he] at pG;unfold erE at pG;simp only[Option.isSome_none,bD,if_false,Option.getD_none] at pG;have mI:=aA (qO.out · (HNA.out jS));clear jS he;go_wp2_with (with_reducible refine dQ (some 29) rfl ?_;refine aA ?_;refine wpList_load_mid rfl 28 (.tmp 28) rfl b (off+k*19) rfl (fP x) _ HX.out.cells aW rfl hi.out ?_)
     refine pG.out.mono ?_;rintro e w4 ⟨⟨v4,rfl,_⟩,hb4⟩;have HR:=aA (mI.out w4 ((HJ.out.up hb4).gL));clear hb4 pG;go_wp2_with fail;go_ret2;exact HR.out
    | true =>
     obtain ⟨L,hL⟩:∃L,jO (eQ x)=L:=⟨_,rfl⟩;have he:qI x=some L:=by unfold qI;rw[jS,←hL];rfl
     have hLl:L.length≤65536:=by have:=sO (Td.out jS);rw[←hL];omega
     unfold KX at pG;rw[he] at pG;rw[hL] at Yn;rw[jS] at HAS;unfold erE at pG;simp only[Option.isSome_some,if_true,Option.getD_some] at pG;have HLL:=aA hLl;clear jS he hL hLl;go_wp2_with (with_reducible refine dQ (some 29) rfl ?_;refine aA ?_;refine wpList_load_mid rfl 28 (.tmp 28) rfl b (off+k*19) rfl (fP x) _ HX.out.cells aW rfl hi.out ?_)
     refine pG.out.mono ?_;rintro e w4 ⟨⟨v4,rfl,vO⟩,hb4⟩;obtain ⟨o4,c4,rfl,Nx,Wo,hc4m,Vz,Vy⟩:=vO.open;have JA:=aA (HJ.out.up hb4);have UW:=aA (Tj p L (fQ++rG n xs k) o4 c4 w4 Vz Nx HLL.out HL9.out JA.out.wr);obtain ⟨m4,NF⟩:∃m,L.length=m:=⟨_,rfl⟩;rw[NF] at UW Wo ⊢;clear vO Nx hc4m Vz Vy hb4 pG HJ NF;go_wp2_with fail;refine UW.out.mono ?_;rintro e w5 SF;obtain rfl:=SF.1;have sX:Hid (Xx p (fQ++rG n xs (k+1)) w w5):=aA (by
      rw[Yn.out,←bM];exact JA.out.step SF)
     clear SF UW;go_wp2_with fail;go_roundg (n-(k+1))
     case measure=>omega
     case rel=>exact ⟨k+1,rfl,by go_num,by omega,HAS.out,sX.out⟩
   ·obtain rfl:k=n:=by omega
    have t2:¬ (k:Int)<(k:Int):=by omega
    have hall:xs.all mK=true:=by have:=HA.out;rwa [bB (by rw[HN.out];omega)] at this
    obtain ⟨v,hrow,hown⟩:=HJ.out.wr;obtain ⟨o5,c5,rfl,Nw,hc5,hc5m,hn5,_⟩:=hown.open;have hby:By (fQ++rG k xs k):=fun z hz=>by
     rcases bS.1 hz with hz|hz
     ·exact xG z hz
     ·unfold rG at hz
      rcases bS.1 hz with hz|hz
      ·exact Pk.gY (by omega) z hz
      ·exact BP (Te.out k HA.out) z hz
    have hlen:(fQ++rG k xs k).length≤900004:=by
     rw[aI];have:=CG.out hall;have : fQ.length=4:=rfl;omega
    have p0:wo.cell? ⟨p,0,none⟩=some (.slice o5 (fQ++rG k xs k).length c5):=(aD _ _ _ _ _ _ hrow).trans rfl;have UJ:=aA (show Calls prog 39 #[.slice o5 (fQ++rG k xs k).length c5] wo fun e w'=>(∃v,e=.returned v∧Pk.Own w' wo.heap.size v (iK (fQ++rG k xs k)))∧Below wo.heap.size wo w' from Cx.JW (fQ++rG k xs k) o5 c5 wo (TS hby) (by omega) hn5 (TT Nw));have HG:=aA (fun X v=>xV.out X v hall);have Rq:=aA HJ.out.gL;generalize (fQ++rG k xs k).length=nl at p0 UJ;clear hrow hown Nw hc5 hc5m hn5 hby hlen HJ hall;go_wp2_with fail;clear p0;refine UJ.out.mono ?_;rintro e zz ⟨⟨v6,rfl,gy⟩,KL⟩;have HR:=aA (HG.out zz v6 (gy.mono Rq.out.size) (dN Rq.out KL));clear gy KL UJ;go_wp2_with fail;go_ret2;exact HR.out
end Fx
namespace Fx
open Go Go.RowKit
open Pk (fW Bs By pR YU YT rq)
def mB {α κ:Type}(P:pO κ)(key:α→κ)(El:α→World→Prop)(val:α→Value)(o:Option Addr)(c:Nat)(l:List Nat)(p a:Nat)(lost:Bool)(w:World)(e:Ending)(w':World):Prop :=
 w.grownBy w' (some p)∧∃x,e=.returned (val x)∧El x w'∧match eP lost P l a with
  | some (k,b)=>key x=k∧b≤l.length∧Pk.ZR o c l p b false w'
  | none=>∃b,b≤l.length∧Pk.ZR o c l p b true w'
theorem mB.use {α κ:Type}{P:pO κ}{key:α→κ}{El:α→World→Prop}{val:α→Value}{o:Option Addr}{c:Nat}{l:List Nat}{p a:Nat}{lost:Bool}{w:World}{e:Ending}{w':World}(h:mB P key El val o c l p a lost w e w') :
  w.grownBy w' (some p)∧∃x b fX,e=.returned (val x)∧El x w'∧Pk.ZR o c l p b fX w'∧b≤l.length∧eP lost P l a=opt fX (key x,b):=by
 obtain ⟨hg,x,he,hx,hm⟩:=h;refine ⟨hg,x,?_⟩
 cases hr:eP lost P l a with
 | none =>
  rw[hr] at hm;obtain ⟨b,hb,hp⟩:=hm;exact ⟨b,true,he,hx,hp,hb,rfl⟩
 | some q =>
  obtain ⟨k,b⟩:=q;rw[hr] at hm;obtain ⟨rfl,hb,hp⟩:=hm;exact ⟨b,false,he,hx,hp,hb,rfl⟩
theorem mB.make {α κ:Type}{P:pO κ}{key:α→κ}{El:α→World→Prop}{val:α→Value}{o:Option Addr}{c:Nat}{l:List Nat}{p a:Nat}{lost:Bool}{w:World}{w':World}{x:α}{b:Nat}{fX:Bool}
  (hg:w.grownBy w' (some p)) (hx:El x w') (hp:Pk.ZR o c l p b fX w') (hb:b≤l.length) (hr:eP lost P l a=opt fX (key x,b)):mB P key El val o c l p a lost w (.returned (val x)) w':=by
 refine ⟨hg,x,rfl,hx,?_⟩;rw[hr]
 cases fX
 ·exact ⟨rfl,hb,hp⟩
 ·exact ⟨b,hb,hp⟩
theorem uM {o:Option Addr}{c:Nat}{l:List Nat}{p a B:Nat}{lost:Bool}{W X:World}(h:Pk.ZR o c l p a lost W)(hp:p<B)(iE:∀b off,o=some ⟨b,off,none⟩→0<l.length→b<B)(hb:Below B W X):Pk.ZR o c l p a lost X :=
 ⟨by rw[hb.block p hp];exact h.row,fun j hj=>by
  obtain ⟨b,off,e,hc⟩:=h.bs j hj;exact ⟨b,off,e,by rw[cZ (w:=W) (hb.block b (iE b off e (by omega)))];exact hc⟩⟩
theorem AJ (o:Option Addr)(c:Nat)(l:List Nat)(p a:Nat)(lost:Bool)(w:World)(k:fW l a)(h:Pk.ZR o c l p a lost w) :
  Calls prog 87 #[.pointer (some ⟨p,0,none⟩)] w (mB pI (fun z:Int=>z) (fun z _=>Num z) (fun z=>.int .i64 z) o c l p a lost w):=by
 refine (Pk.Db o c l p a lost w k h).mono ?_;rintro e w' ⟨rfl,hr,hg⟩;have hlt:pR (rq lost 18446744073709551615 (l.drop a))<18446744073709551616:=by have:=Pk.QD (lost:=lost) (most:=18446744073709551615) (s:=l.drop a);omega
 refine ⟨hg,_,rfl,LO hlt,?_⟩;have e1:eP lost pI l a=(rq lost 18446744073709551615 (l.drop a)).map (fun q=>(Pk.GI q.1,a+q.2)):=by
  unfold eP pI rq
  cases lost <;> rfl
 rw[e1]
 cases hq:rq lost 18446744073709551615 (l.drop a) with
 | none =>
  rw[hq] at hr;exact ⟨a,k.at',hr⟩
 | some q =>
  rw[hq] at hr;refine ⟨rfl,?_,hr⟩;unfold rq at hq
  split at hq
  ·cases hq
  ·have:=Pk.tI hq
   have Wk:(l.drop a).length=l.length-a:=by simp
   omega
theorem mY (most:Nat)(hm:most<9223372036854775808)(o:Option Addr)(c:Nat)(l:List Nat)(p a:Nat)(lost:Bool)(w:World)(k:fW l a)(h:Pk.ZR o c l p a lost w) :
  Calls prog 46 #[.pointer (some ⟨p,0,none⟩),.int .i64 (most:Int)] w (mB (pU most) (fun z:Int=>z) (fun z _=>0≤z∧z≤most) (fun z=>.int .i64 z) o c l p a lost w):=by
 refine (Pk.yV o c l p a most lost w k (by omega) h).mono ?_;rintro e w' ⟨rfl,hr,hg⟩;have hle:=Pk.ZA (lost:=lost) (most:=(most:Int)) (s:=l.drop a);refine ⟨hg,_,rfl,⟨by omega,by omega⟩,?_⟩;rw[←kM]
 cases hq:Pk.rz lost (most:Int) (l.drop a) with
 | none =>
  rw[hq] at hr;exact ⟨a,k.at',hr⟩
 | some q =>
  rw[hq] at hr;refine ⟨rfl,?_,hr⟩;have:=kM (lost:=lost) (most:=most) (l:=l) (a:=a);rw[hq] at this;simp only[Option.map_some] at this;unfold eP at this
  split at this
  ·cases this
  ·exact (zD k.at' this.symm).2.2
structure ZnS (o:Option Addr)(c:Nat)(l:List Nat)(p a:Nat)(lost:Bool)(zs:List Int)(b:Nat)(lo:Bool)(w W:World):Prop where
 res:dI 25 w.heap.size #[.int .i64 0,.int .i64 0,.int .i64 0,.int .i64 0,.int .i64 0,.int .i64 0,.int .i64 0,.int .i64 0,.int .i64 0,.int .i64 0,.int .i64 0,.int .i64 0,.int .i64 0,.int .i64 0,.int .i64 0,.int .i64 0] W
 GJ:dI 25 (w.heap.size+1) (mC (zs++List.replicate (16-zs.length) 0)) W
 rd:Pk.ZR o c l p b lo W
 grow:w.grownBy W (some p)
 le:b≤l.length
 num:∀z∈zs,Num z
 run:eP lost (fE pI zs.length) l a=opt lo (zs,b)
def ZMat (p a:Nat)(lost:Bool)(o:Option Addr)(c:Nat)(l:List Nat)(w:World):Ending→World→Prop:=mB QS (fun m:List Int=>m) (fun m _=>xS 16 m) (fun m=>.agg (mC m)) o c l p a lost w
theorem JH (o:Option Addr)(c:Nat)(l:List Nat)(p a:Nat)(lost:Bool)(w:World)(k:fW l a)(h:Pk.ZR o c l p a lost w)(iE:∀b off,o=some ⟨b,off,none⟩→0<l.length→b<w.heap.size) :
  Calls prog 47 #[.pointer (some ⟨p,0,none⟩)] w (ZMat p a lost o c l w):=by
 have hlt:=h.lt;obtain ⟨W1,hW1⟩:∃V,(w.alloc (.cells #[.int .i64 0,.int .i64 0,.int .i64 0,.int .i64 0,.int .i64 0,.int .i64 0,.int .i64 0,.int .i64 0,.int .i64 0,.int .i64 0,.int .i64 0,.int .i64 0,.int .i64 0,.int .i64 0,.int .i64 0,.int .i64 0] 25)).alloc (.cells #[.int .i64 0,.int .i64 0,.int .i64 0,.int .i64 0,.int .i64 0,.int .i64 0,.int .i64 0,.int .i64 0,.int .i64 0,.int .i64 0,.int .i64 0,.int .i64 0,.int .i64 0,.int .i64 0,.int .i64 0,.int .i64 0] 25)=V:=⟨_,rfl⟩;have b1:Below w.heap.size w W1:=by rw[←hW1];exact ((aJ _ w).alloc (aB _) _).alloc (by simp) _
 have F0:ZnS o c l p a lost [] a lost w W1:=by
  refine ⟨?_,?_,h.below b1,Pk.below_grown b1 (some p),k.at',fun z hz=>by simp at hz,nI _ _ _ _⟩
  ·rw[←hW1];exact dM (aG _ _)
  ·rw[←hW1]
   have:=aG (w.alloc (.cells #[.int .i64 0,.int .i64 0,.int .i64 0,.int .i64 0,.int .i64 0,.int .i64 0,.int .i64 0,.int .i64 0,.int .i64 0,.int .i64 0,.int .i64 0,.int .i64 0,.int .i64 0,.int .i64 0,.int .i64 0,.int .i64 0] 25)) (.cells #[.int .i64 0,.int .i64 0,.int .i64 0,.int .i64 0,.int .i64 0,.int .i64 0,.int .i64 0,.int .i64 0,.int .i64 0,.int .i64 0,.int .i64 0,.int .i64 0,.int .i64 0,.int .i64 0,.int .i64 0,.int .i64 0] 25);rw[aR] at this;exact this
 have Hr:=aA F0;have xY:=aA hW1;have HP:=aA hlt;have jA:=aA iE;have HKK:=aA k;clear F0 b1 hW1 hlt h iE k;go_enter func47,ntmps47;go_wp2_with (rw[xY.out])
 clear xY;go_loopg[4] 16 (fun g s4 wx=>∃ (zs:List Int) (b:Nat) (lo:Bool),g=16-zs.length∧s4=.int .i64 (zs.length:Int)∧zs.length≤16∧ZnS o c l p a lost zs b lo w wx)
 case atStart=>exact ⟨[],a,lost,rfl,rfl,by simp,Hr.out⟩
 case round =>
  obtain ⟨zs,b,lo,rfl,rfl,hk,hi⟩:=hrel;have HI:=aA hi;clear hi Hr;obtain ⟨k,hkz⟩:∃k,zs.length=k:=⟨_,rfl⟩;have Cs:=aA hkz;rw[hkz] at hk ⊢;have k0:(0:Int)≤(k:Int):=by omega
  by_cases hk16:k<16
  ·have t2:(k:Int)<16:=by omega
   obtain ⟨i,hii⟩:∃i,k/4=i:=⟨_,rfl⟩;obtain ⟨r,wF⟩:∃r,k%4=r:=⟨_,rfl⟩;have hir:i*4+r=k:=by omega
   have i0:(0:Int)≤(i:Int):=by omega
   have i4:(i:Int)<4:=by omega
   have r0:(0:Int)≤(r:Int):=by omega
   have r4:(r:Int)<4:=by omega
   have e1:(k:Int).tdiv 4=(i:Int):=by rw[Int.tdiv_eq_ediv_of_nonneg (by omega)];omega
   have e2:(k:Int).tmod 4=(r:Int):=by rw[Int.tmod_eq_emod_of_nonneg (by omega)];omega
   have e3:(k:Int)/4=(i:Int):=by omega
   have e4:(k:Int)%4=(r:Int):=by omega
   have HWI:Hid (IntKind.i64.wrap (i:Int)=(i:Int)):=aA (by rw[bL];omega);have HWR:Hid (IntKind.i64.wrap (r:Int)=(r:Int)):=aA (by rw[bL];omega);have HM:=aA (show dI 25 (w.heap.size+1) _ wr.drew from HI.out.GJ);have HC:=aA (AJ o c l p b lo wr.drew (iH HKK.out HI.out.le) (HI.out.rd.below (nV _ (aJ _ _))));clear hii wF hkz;go_wp2_with fail;refine (bN (n:=5)).1 ?_;refine iN (S:=fun _=>True) (Z:=[]) (by kernel_rfl) ?_;refine eG (fun _=>trivial) [] 0 (?_) (by kernel_rfl) rfl (by kernel_rfl) (fun _ _ _ h=>h) trivial (by kernel_rfl) ?_ ?_;rotate_left
   ·intro wz hSw;first|(go_simp;done)|(go_simp;with_reducible rfl)
   try simp only[aQ]
   refine eG (fun _=>trivial) [] 1 (?_) (by kernel_rfl) rfl (by kernel_rfl) (fun _ _ _ h=>h) trivial (by kernel_rfl) ?_ ?_;rotate_left
   ·intro wz hSw;first|(go_simp;done)|(go_simp;with_reducible rfl)
   try simp only[aQ]
   refine eG (fun _=>trivial) [] 2 (?_) (by kernel_rfl) rfl (by kernel_rfl) (fun _ _ _ h=>h) trivial (by kernel_rfl) ?_ ?_;rotate_left
   ·intro wz hSw;first|(go_simp;done)|(go_simp;with_reducible rfl)
   try simp only[aQ]
   refine eG (fun _=>trivial) [] 3 (?_) (by kernel_rfl) rfl (by kernel_rfl) (fun _ _ _ h=>h) trivial (by kernel_rfl) ?_ ?_;rotate_left
   ·intro wz hSw;first|(go_simp;done)|(go_simp;with_reducible rfl)
   try simp only[aQ]
   refine eG (fun _=>trivial) [] 4 (?_) (by kernel_rfl) rfl (by kernel_rfl) (fun _ _ _ h=>h) trivial (by kernel_rfl) ?_ ?_;rotate_left
   ·intro wz hSw;first|(go_simp;done)|(go_simp;with_reducible rfl)
   try simp only[aQ]
   refine eG (fun _=>trivial) [] 6 (.pointer (some ⟨w.heap.size+1,i*4,none⟩)) (by kernel_rfl) rfl (by kernel_rfl) (fun _ _ _ h=>h) trivial (by kernel_rfl) ?_ ?_
   ·intro wz hSw;(go_simp;rw[HWI.out,aZ ⟨i0,i4⟩];(try first|rfl|simp))
   try simp only[aQ]
   refine gF (fun _=>trivial) 5 (by kernel_rfl) rfl (fun K hK=>?_);rw[aZ (by kernel_rfl)];refine IC 87 #[.pointer (some ⟨p,0,none⟩)] (by first|(go_simp;done)|(go_simp;with_reducible rfl)) _ _ _ rfl HC.out (fun e wb hp=>?_);obtain ⟨hg,z,b2,lo2,rfl,hn,hr,hl,hrun⟩:=mB.use hp;have hrow:=fA HM.out hg (by have:=HP.out;omega);refine ⟨_,rfl,hK.out _ _ (fun _=>trivial) ?_⟩;clear hK K;try simp only[aQ]
   refine eG (fun _=>trivial) [] 7 (.pointer (some ⟨w.heap.size+1,i*4+r,none⟩)) (by kernel_rfl) rfl (by kernel_rfl) (fun _ _ _ h=>h) trivial (by kernel_rfl) ?_ ?_
   ·intro wz hSw;first|(go_simp;done)|(go_simp;rw[HWR.out,aZ ⟨r0,r4⟩];(try first|rfl|simp))
   try simp only[aQ]
   refine gF (fun _=>trivial) 8 (by kernel_rfl) rfl (fun K hK=>?_);rw[aZ (by kernel_rfl)];have Md:(zs++List.replicate (16-zs.length) (0:Int))[k]?=some 0:=by rw[List.getElem?_append_right (by have:=Cs.out;omega),Cs.out,Nat.sub_self,List.getElem?_replicate,aZ (by omega)]
   have hcell:wb.cell? ⟨w.heap.size+1,k,none⟩=some (.int .i64 0):=by rw[aD _ _ _ _ _ _ hrow];unfold mC;rw[List.getElem?_toArray,bZ,Md];rfl
   have hfrz:wb.frozen? ⟨w.heap.size+1,k,none⟩=false:=dJ hrow;go_simp;refine hK.out _ _ (fun _=>trivial) ?_;clear hK K;try simp only[aQ]
   refine jW (by kernel_rfl) ?_ _;have HN:Hid (ZnS o c l p a lost (zs++[z]) b2 lo2 w (wb.setCell ⟨w.heap.size+1,k,none⟩ (.int .i64 z))):=aA (by
    have Fh:Below w.heap.size wb (wb.setCell ⟨w.heap.size+1,k,none⟩ (.int .i64 z)):=Below.setCell (p:=⟨w.heap.size+1,k,none⟩) ⟨rfl,rfl,rfl,aB _,fun _ _=>rfl⟩ (by show _≤w.heap.size+1;omega) _;have hres:=fA (show dI 25 w.heap.size #[.int .i64 0,.int .i64 0,.int .i64 0,.int .i64 0,.int .i64 0,.int .i64 0,.int .i64 0,.int .i64 0,.int .i64 0,.int .i64 0,.int .i64 0,.int .i64 0,.int .i64 0,.int .i64 0,.int .i64 0,.int .i64 0] wr.drew from HI.out.res) hg (by have:=HP.out;omega);have hgr:w.grownBy wr.drew (some p):=HI.out.grow.trans (Pk.below_grown (nV _ (aJ _ _)) (some p));refine ⟨by unfold dI;rw[aK _ _ _ _ (by show w.heap.size≠w.heap.size+1;omega)];exact hres,?_,uM hr HP.out jA.out Fh,gW (hgr.trans hg) Fh,hl,fun y hy=>?_,?_⟩
    ·have h1:=aM _ _ k _ _ (.int .i64 z) hrow
     rw[←Cs.out] at h1;rw[Lt (by rw[Cs.out];exact hk16)] at h1;rw[Cs.out] at h1;exact h1
    ·rcases bS.1 hy with hy|hy
     ·exact HI.out.num y hy
     ·simp at hy
      subst hy;exact hn
    ·rw[aI]
     exact iD HI.out.run hrun)
   clear hcell hfrz Md hrow hr hl hn hrun hg;go_wp2_with fail;go_roundg (16-(k+1))
   case measure=>(have:=Cs.out;omega)
   case rel=>exact ⟨zs++[z],b2,lo2,by simp[Cs.out],by rw[aI,Cs.out];go_num,by rw[aI,Cs.out];simp;omega,HN.out⟩
  ·obtain rfl:k=16:=by omega
   have t2:¬ ((16:Nat):Int)<16:=by omega
   have hzs:mC (zs++List.replicate (16-zs.length) 0)=mC zs:=by rw[Cs.out];simp
   have HM:=aA (show dI 25 (w.heap.size+1) (mC zs) wr by rw[←hzs];exact HI.out.GJ);have HR:=aA (show dI 25 w.heap.size #[.int .i64 0,.int .i64 0,.int .i64 0,.int .i64 0,.int .i64 0,.int .i64 0,.int .i64 0,.int .i64 0,.int .i64 0,.int .i64 0,.int .i64 0,.int .i64 0,.int .i64 0,.int .i64 0,.int .i64 0,.int .i64 0] wr from HI.out.res);have tC:(mC zs).size=16:=by simp[mC,Cs.out]
   have vQ:=aA (show (prog.info? 25).map (·.size)=some (mC zs).size by rw[tC];kernel_rfl);have nT:=aA (show (prog.info? 25).map (·.size)=some (zs.map encI).length by rw[aT,Cs.out];kernel_rfl);have IL:=aA (show 16=(mC zs).size from tC.symm);have IK:Hid ((mC zs).all (·.oneCell')=true):=aA (by unfold mC;rw[List.all_toArray,bU];exact fun u hu=>by obtain ⟨z,_,rfl⟩:=List.mem_map.1 hu;rfl);have HX:=aA (show wr.rangeAt (w.heap.size+1) 0 (zs.map encI) from fun j u hj=>by rw[bE,aD _ _ _ _ _ _ HM.out];simpa[mC] using hj);obtain ⟨Y,hY⟩:∃V,wr.setRow w.heap.size (mC zs)=V:=⟨_,rfl⟩;have AE:=aA (show dI 25 w.heap.size (mC zs) Y by rw[←hY];exact HR.out.row _);have HE:Hid (ZMat p a lost o c l w (.returned (.agg (mC zs))) Y):=aA (by
    have Fh:Below w.heap.size wr Y:=by rw[←hY];exact Below.row ⟨rfl,rfl,rfl,aB _,fun _ _=>rfl⟩ (aB _) _
    refine mB.make (gW HI.out.grow Fh) ⟨Cs.out,HI.out.num⟩ (uM HI.out.rd HP.out jA.out Fh) HI.out.le ?_;have:=HI.out.run;rw[Cs.out] at this;exact this)
   have HYY:=aA hY;clear hzs tC hY HI;go_wp2_with (first|(rw[HYY.out])|(with_reducible refine dQ (some 17) rfl ?_;refine aA ?_;refine wpList_load_mid rfl 25 (.tmp 3) rfl (w.heap.size+1) 0 rfl (zs.map encI) _ HX.out aU rfl nT.out ?_)|(refine dG rfl 25 (.tmp 2) (.tmp 17) rfl w.heap.size _ _ (mC zs) rfl rfl HR.out vQ.out IL.out IK.out ?_))
   refine aO (v:=.agg (mC zs)) (results_cell_row rfl _ _ w.heap.size _ (mC zs) _ _ rfl AE.out aU rfl vQ.out) rfl ?_;exact HE.out
end Fx
namespace Fx
open Go Go.RowKit Go.Lib
theorem DV {α:Type}(t:TypeId)(n:Nat)(f:α→List Value)(W:World):fK t n f (W.alloc (.cells #[] t)) W.heap.size (.slice (some ⟨W.heap.size,0,none⟩) 0 0) [] :=
 ⟨by simp,.inr ⟨W.heap.size,0,#[],rfl,aB _,aG _ _,aB _,by unfold maxLen;omega,by simp,by simp⟩⟩
structure UD (s:eF)(v:Value)(l:List eE)(w W:World):Prop where
 box:eZ w.heap.size s W
 res:W.heap[w.heap.size+1]?=some (.cells #[.int .i64 0,.int .i64 0,.int .i64 0,.int .i64 0,.int .i64 0,.int .i64 0,.int .i64 0,.int .i64 0,.int .i64 0,.int .i64 0,.int .i64 0,.int .i64 0,.int .i64 0,.int .i64 0,.int .i64 0,.int .i64 0,.int .i64 0,.int .i64 0,.slice none 0 0] 28 (0,0))
 twin:W.heap[w.heap.size+1+1]?=some (.cells (UN s v).toArray 28 (0,0))
 own:fK 73 19 dP W (w.heap.size+1+1+1) v l
 each:∀x∈l,gV (w.heap.size+1+1+1) x W
 below:Below w.heap.size w W
theorem UD.up {s:eF}{v:Value}{l:List eE}{w W X:World}(h:Below W.heap.size W X)(i:UD s v l w W):UD s v l w X :=
 ⟨i.box.below h,dL h i.res,dL h i.twin,i.own.below h,fun x hx=>(i.each x hx).rows (Rows.of_below h) (Rows.of_below h),dN i.below h⟩
theorem UD.lt {s:eF}{v:Value}{l:List eE}{w W:World}(i:UD s v l w W):w.heap.size+1+1<W.heap.size:=(aC.1 i.twin).1
theorem UD.put {s:eF}{v u:Value}{l:List eE}{w W:World}{b j:Nat}{c:Array Value}(i:UD s v l w W)(hb:w.heap.size+1+1<b)(ho:v.ownBlock≠some b)(hr:W.heap[b]?=some (.cells c 73 (0,0))):UD s v l w (W.setCell ⟨b,j,none⟩ u):=by
 have keep:∀ {g:Nat} {o:Obj},g<b→W.heap[g]?=some o→(W.setCell ⟨b,j,none⟩ u).heap[g]?=some o:=fun hlt h=>by
  rw[aK _ _ _ _ (by show _≠b;omega)];exact h
 exact ⟨keep (by omega) i.box,keep (by omega) i.res,keep (by omega) i.twin,i.own.kU ho,
  fun x hx=>(i.each x hx).rows (Rows.lT hr (by decide)) (Rows.lT hr (by decide)),i.below.setCell (p:=⟨b,j,none⟩) (by show _≤b;omega) _⟩
theorem UD.step {s:eF}{v v':Value}{l l':List eE}{w W X:World}(hs:iA s)(i:UD s v l w W)(ho:fK 73 19 dP X (w.heap.size+1+1+1) v' l')(hg:W.grownBy X v.ownBlock)(he:∀x∈l',gV (w.heap.size+1+1+1) x W) :
  X.heap[w.heap.size+1+1]?=some (.cells (UN s v).toArray 28 (0,0))∧UD s v' l' w (X.setCell ⟨w.heap.size+1+1,18,none⟩ v'):=by
 have hb:=i.own.blk;have keep:∀ {g:Nat} {o:Obj},g<w.heap.size+1+1+1→W.heap[g]?=some o→X.heap[g]?=some o:=fun hlt h=>by
  rw[hg.block _ (aC.1 h).1 (fun e=>by have:=hb _ e.symm;omega)];exact h
 have k2:∀ {g:Nat} {o:Obj},g≠w.heap.size+1+1→g<w.heap.size+1+1+1→W.heap[g]?=some o→(X.setCell ⟨w.heap.size+1+1,18,none⟩ v').heap[g]?=some o:=fun hne hlt h=>by
  rw[aK _ _ _ _ hne];exact keep hlt h
 have ht:=keep (by omega) i.twin;refine ⟨ht,k2 (by omega) (by omega) i.box,k2 (by omega) (by omega) i.res,?_,ho.kU (fun e=>by have:=ho.blk _ e;omega),fun x hx=>?_,?_⟩
 ·rw[aM _ _ 18 _ _ v' ht,LQ hs]
 ·have h1:∀ {t:TypeId},t≠73→t≠28→Rows t W (X.setCell ⟨w.heap.size+1+1,18,none⟩ v'):=fun n1 n2=>(Rows.iL hg (fun k hk=>i.own.row k hk) n1).trans (Rows.lT ht n2)
  exact (he x hx).rows (h1 (by decide) (by decide)) (h1 (by decide) (by decide))
 ·exact (gZ (aB _) i.below hg (fun k hk=>by have:=hb k hk;omega)).setCell (p:=⟨w.heap.size+1+1,18,none⟩) (by show _≤w.heap.size+1+1;omega) _
def Qm (s:eF)(w:World)(e:Ending)(w':World):Prop:=∃c:eF,e=.returned (.agg (eU c))∧eQ c=eQ s∧fF w.heap.size c w'∧Below w.heap.size w w'
theorem Dp (s:eF)(w:World)(hs:iA s)(h:eN w s.oo s.os)(hf:s.os.length≤1000)(hfe:∀x∈s.os,x.vs.length≤1000∧x.ts.length≤1000) :
  Calls prog 11 #[.agg (eU s)] w (Qm s w):=by
 obtain ⟨A1,IP⟩:∃V,(w.alloc (.cells (eU s) 28)).alloc (.cells #[.int .i64 0,.int .i64 0,.int .i64 0,.int .i64 0,.int .i64 0,.int .i64 0,.int .i64 0,.int .i64 0,.int .i64 0,.int .i64 0,.int .i64 0,.int .i64 0,.int .i64 0,.int .i64 0,.int .i64 0,.int .i64 0,.int .i64 0,.int .i64 0,.slice none 0 0] 28)=V:=⟨_,rfl⟩;obtain ⟨A2,Fp⟩:∃V,A1.alloc (.cells #[.int .i64 0,.int .i64 0,.int .i64 0,.int .i64 0,.int .i64 0,.int .i64 0,.int .i64 0,.int .i64 0,.int .i64 0,.int .i64 0,.int .i64 0,.int .i64 0,.int .i64 0,.int .i64 0,.int .i64 0,.int .i64 0,.int .i64 0,.int .i64 0,.slice none 0 0] 28)=V:=⟨_,rfl⟩;obtain ⟨A3,hA3⟩:∃V,A2.setRow (w.heap.size+1+1) (eU s)=V:=⟨_,rfl⟩;obtain ⟨A4,hA4⟩:∃V,A3.setCell ⟨w.heap.size+1+1,18,none⟩ (.slice none 0 0)=V:=⟨_,rfl⟩;have z1:A1.heap.size=w.heap.size+1+1:=by rw[←IP];simp
 have z2:A2.heap.size=w.heap.size+1+1+1:=by rw[←Fp,aR,z1]
 have b1:Below w.heap.size w A1:=by rw[←IP];exact ((aJ _ w).alloc (aB _) _).alloc (by simp) _
 have r1:eZ w.heap.size s A1:=by rw[←IP];exact dM (eZ.new w s)
 have r2:dI 28 (w.heap.size+1) #[.int .i64 0,.int .i64 0,.int .i64 0,.int .i64 0,.int .i64 0,.int .i64 0,.int .i64 0,.int .i64 0,.int .i64 0,.int .i64 0,.int .i64 0,.int .i64 0,.int .i64 0,.int .i64 0,.int .i64 0,.int .i64 0,.int .i64 0,.int .i64 0,.slice none 0 0] A1:=by
  rw[←IP];have:=dI.new (w.alloc (.cells (eU s) 28)) 28 #[.int .i64 0,.int .i64 0,.int .i64 0,.int .i64 0,.int .i64 0,.int .i64 0,.int .i64 0,.int .i64 0,.int .i64 0,.int .i64 0,.int .i64 0,.int .i64 0,.int .i64 0,.int .i64 0,.int .i64 0,.int .i64 0,.int .i64 0,.int .i64 0,.slice none 0 0];rw[aR] at this;exact this
 have b2:Below A1.heap.size A1 A2:=by rw[←Fp];exact (aJ _ A1).alloc (aB _) _
 have r3:dI 28 (w.heap.size+1+1) #[.int .i64 0,.int .i64 0,.int .i64 0,.int .i64 0,.int .i64 0,.int .i64 0,.int .i64 0,.int .i64 0,.int .i64 0,.int .i64 0,.int .i64 0,.int .i64 0,.int .i64 0,.int .i64 0,.int .i64 0,.int .i64 0,.int .i64 0,.int .i64 0,.slice none 0 0] A2:=by
  rw[←Fp,←z1];exact dI.new A1 _ _
 have b3:Below A1.heap.size A1 A3:=by rw[←hA3];exact Below.row b2 (by omega) _
 have r4:dI 28 (w.heap.size+1+1) (UN s (.slice s.oo s.os.length s.oc)).toArray A3:=by rw[←hA3];exact r3.row _
 have b4:Below A1.heap.size A1 A4:=by rw[←hA4];exact b3.setCell (p:=⟨w.heap.size+1+1,18,none⟩) (by show _≤w.heap.size+1+1;omega) _
 have r5:A4.heap[w.heap.size+1+1]?=some (.cells (UN s (.slice none 0 0)).toArray 28 (0,0)):=by
  rw[←hA4,aM _ _ 18 _ _ (.slice none 0 0) r4,LQ hs]
 have q18:A3.cell? ⟨w.heap.size+1+1,18,none⟩=some (.slice s.oo s.os.length s.oc):=by rw[aD _ _ _ _ _ _ r4];exact VK hs _
 have f18:A3.frozen? ⟨w.heap.size+1+1,18,none⟩=false:=dJ r4;have F0:UD s (.slice none 0 0) [] w A4:=⟨r1.below b4,dL b4 r2,r5,fK.nil _ _ _ _ _,fun x hx=>by simp at hx,dN b1 b4⟩;have Hr:=aA F0;obtain ⟨n,hn⟩:∃n,s.os.length=n:=⟨_,rfl⟩;obtain ⟨oo,zU⟩:∃o,s.oo=o:=⟨_,rfl⟩;have Cr:=aA zU;have c18:A4.cell? ⟨w.heap.size,18,none⟩=some (.slice oo n s.oc):=by rw[F0.box.c18 hs,hn,zU]
 have gR:=hs.cap.1;rw[hn] at gR hf q18;have wS:=aA z1;have Cv:=aA IP;have HA2:=aA Fp;have HA3:=aA hA3;have HA4:=aA hA4;have jA:=aA h;have Ym:=aA hs;have HFE:=aA hfe;have AG:=aA hn;have Ss:=aA (show A1.rangeAt w.heap.size 0 (fP s) from fun j u hj=>by rw[bE];exact r1.at.trans hj);have xZ:=aA r3;have hall:=aA (CR hs);have hsz:=aA (JR s hs (.slice s.oo s.os.length s.oc));have hl19:=aA (show 19=(eU s).size from (sH hs (.slice s.oo s.os.length s.oc)).symm);have iM:=aA (show (eU s).all (·.oneCell')=true from nA s (.slice s.oo s.os.length s.oc) rfl);have n0:(0:Int)≤(n:Int):=by omega
 have n1:(n:Int)≤1000:=by omega
 clear F0 b4 b3 b2 b1 r1 r2 r3 r4 r5 z1 z2 IP Fp hA3 hA4 h hs hfe hn zU;go_enter func11,ntmps11;go_wp2_with (first|(rw[Cv.out])|(rw[wS.out])|(rw[HA2.out])|(rw[HA3.out])|(rw[HA4.out])|(with_reducible refine dQ (some 6) rfl ?_;refine aA ?_;refine wpList_load_mid rfl 28 (.tmp 1) rfl w.heap.size 0 rfl (fP s) _ Ss.out aW rfl hall.out ?_)|(refine dG rfl 28 (.tmp 3) (.tmp 6) rfl (w.heap.size+1+1) _ _ (eU s) rfl rfl xZ.out hsz.out hl19.out iM.out ?_))
 clear q18 f18 c18 Cv HA2 HA3 HA4 wS Ss xZ hall hl19 iM;go_loopg[11] n (fun g s11 wx=>∃ (k:Nat) (v:Value) (l:List eE),g=n-k∧s11=.int .i64 (k:Int)∧k≤n∧UD s v l w wx∧l.map eX=(s.os.take k).map eX)
 case atStart=>exact ⟨0,_,[],rfl,rfl,by omega,Hr.out,rfl⟩
 case round =>
  obtain ⟨k,v,l,rfl,rfl,hk,hi,wI⟩:=hrel;have HI:=aA hi;have HKL:=aA wI;clear hi wI Hr;have k0:(0:Int)≤(k:Int):=by omega
  by_cases pK:k<n
  ·have t2:(k:Int)<(n:Int):=by omega
   obtain ⟨x,hx⟩:∃x,s.os[k]?=some x:=⟨_,aF (by rw[AG.out];exact pK)⟩;have OS:=aX hx;obtain ⟨b,off,zU,hat⟩:=(jA.out.below HI.out.below) k x hx;rw[Cr.out] at zU;subst zU;have HTV:Hid (∀X,Below w.heap.size w X→fH X x.vo x.vs∧gM X x.tq x.ts):=aA (fun X hb=>by
    obtain ⟨_,_,_,h⟩:=(jA.out.below hb) k _ hx;exact ⟨h.sT,h.zM⟩)
   have GU:=aA hat.wf;have qj:=aA hat.cells;have sY:=hat.wf;obtain ⟨V1,hV1⟩:∃V,wr.alloc (.cells #[.int .i64 0,.int .i64 0,.int .i64 0,.int .i64 0,.int .i64 0,.int .i64 0,.int .i64 0,.int .i64 0,.int .i64 0,.int .i64 0,.int .i64 0,.int .i64 0,.int .i64 0,.int .i64 0,.int .i64 0,.int .i64 0,.int .i64 0,.slice none 0 0,.slice none 0 0] 73)=V:=⟨_,rfl⟩;obtain ⟨V2,hV2⟩:∃V,V1.setRow wr.heap.size (dP x).toArray=V:=⟨_,rfl⟩;obtain ⟨V3,oG⟩:∃V,V2.alloc (.cells #[] 85)=V:=⟨_,rfl⟩;have r1:dI 73 wr.heap.size #[.int .i64 0,.int .i64 0,.int .i64 0,.int .i64 0,.int .i64 0,.int .i64 0,.int .i64 0,.int .i64 0,.int .i64 0,.int .i64 0,.int .i64 0,.int .i64 0,.int .i64 0,.int .i64 0,.int .i64 0,.int .i64 0,.int .i64 0,.slice none 0 0,.slice none 0 0] V1:=by rw[←hV1];exact dI.new _ _ _
   have r2:dI 73 wr.heap.size (dP x).toArray V2:=by rw[←hV2];exact r1.row _
   have b2:Below wr.heap.size wr V2:=by rw[←hV2,←hV1];exact Below.row ((aJ _ _).alloc (aB _) _) (aB _) _
   have b3:Below V2.heap.size V2 V3:=by rw[←oG];exact (aJ _ _).alloc (aB _) _
   have jP:=aA (HI.out.up b2);have qB:=aA ((HI.out.up b2).up b3);have H53:=aA (show dI 73 wr.heap.size (dP x).toArray V3 from dL b3 r2);have HNE:=aA (show v.ownBlock≠some wr.heap.size from fun e=>by have:=HI.out.own.lt _ e;omega);have qR:=aA HI.out.lt;have HOE:=aA (show fK 85 3 (fun z:List Int=>z.map encI) V3 V2.heap.size (.slice (some ⟨V2.heap.size,0,none⟩) 0 0) [] by rw[←oG];exact DV _ _ _ _);have LF:=aA b3;have d17:V3.cell? ⟨wr.heap.size,17,none⟩=some (.slice x.vo x.vs.length x.vc):=by
    rw[aD _ _ _ _ _ _ H53.out];exact (by simpa using nB sY)
   have Nk:=aA (show (prog.info? 73).map (·.size)=some (dP x).length by rw[dX sY];kernel_rfl);have NH:=aA (show (prog.info? 73).map (·.size)=some (dP x).toArray.size by rw[aL,dX sY];kernel_rfl);have SP:=aA (show 19=(dP x).toArray.size by rw[aL,dX sY]);have SN:Hid ((dP x).toArray.all (·.oneCell')=true):=aA (by rw[List.all_toArray,bU];exact fun u hu=>lU x u hu);have Fe:=HFE.out x OS;have HFX:=aA Fe;have HTK:Hid ((s.os.take (k+1)).map eX=l.map eX++[eX x]):=aA (by rw[bX,hx,List.map_append,HKL.out];rfl);have HLL:Hid (l.length≤1000):=aA (by
    have:=congrArg List.length HKL.out;simp only[aT,bT] at this;omega)
   have Sw:=aA (HTV.out V3 qB.out.below).1;have qQ:=aA r1;have vF:=aA hV1;have oM:=aA hV2;have GV:=aA oG;have HSZ3:Hid (V2.heap.size≤V3.heap.size):=aA b3.size;have HSZ2:Hid (wr.heap.size<V2.heap.size):=aA r2.lt;clear hx OS hat sY r1 r2 b2 b3 hV1 hV2 oG Fe HI HKL;go_wp2_with (first|(rw[vF.out])|(rw[oM.out])|(rw[GV.out])|(with_reducible refine dQ (some 14) rfl ?_;refine aA ?_;refine wpList_load_mid rfl 73 (.tmp 13) rfl b (off+k*19) rfl (dP x) _ qj.out bW rfl Nk.out ?_)|(refine dG rfl 73 (.tmp 5) (.tmp 14) rfl wr.heap.size _ _ (dP x).toArray rfl rfl qQ.out NH.out SP.out SN.out ?_)|(at_builtin;refine pD EH rfl (.tmp 15) (.tmp 17) 70 rfl dD V2.heap.size (.slice (some ⟨V2.heap.size,0,none⟩) 0 0) [] x.vs rfl HSZ3.out HOE.out x.vo x.vc rfl GU.out.LJ.2 Sw.out.src (PQ Sw.out.wf) (fun z _=>xR z) (by have:=HFX.out.1;simp;omega) ?_))
   intro v2 X1 Ap hg1;try rw[cB] at Ap
   obtain ⟨o2,c2,rfl,tZ,hl2⟩:=Ap.form (PQ Sw.out.wf);refine aA ?_;have hb1:Below V2.heap.size V3 X1:=(aJ _ _).grown hg1 HSZ3.out (fun q hq=>by cases hq;exact aB _);have Zr:∀ {g:Nat} {o:Obj},g<V2.heap.size→V3.heap[g]?=some o→X1.heap[g]?=some o:=fun hlt h=>by rw[hb1.block _ hlt];exact h
   have hb1':Below V2.heap.size V2 X1:=LF.out.grown hg1 HSZ3.out (fun q hq=>by cases hq;exact aB _);have h51:dI 73 wr.heap.size (dP x).toArray X1:=Zr HSZ2.out H53.out;have Ao:UD s v l w X1:=jP.out.up hb1';have e17:X1.cell? ⟨wr.heap.size,17,none⟩=some (.slice x.vo x.vs.length x.vc):=by
    rw[aD _ _ _ _ _ _ h51];exact (by simpa using nB GU.out)
   have g17:X1.frozen? ⟨wr.heap.size,17,none⟩=false:=dJ h51;obtain ⟨Y1,sZ⟩:∃V,X1.setCell ⟨wr.heap.size,17,none⟩ (.slice o2 x.vs.length c2)=V:=⟨_,rfl⟩;obtain ⟨V4,Wy⟩:∃V,Y1.alloc (.cells #[] 87)=V:=⟨_,rfl⟩;have h5y:dI 73 wr.heap.size (dP { x with vo:=o2,vc:=c2 }).toArray Y1:=by
    have:=aM _ _ 17 _ _ (.slice o2 x.vs.length c2) h51;rw[WR GU.out.len] at this;rw[←sZ];exact this
   have hsy:UD s v l w Y1:=by rw[←sZ];exact Ao.put qR.out HNE.out h51
   have hvy:iX 85 3 (fun z=>z.map encI) Y1 V2.heap.size o2 x.vs:=by rw[←sZ];exact hl2.rows (Rows.lT h51 (by decide))
   have b4:Below Y1.heap.size Y1 V4:=by rw[←Wy];exact (aJ _ _).alloc (aB _) _
   have HIY:=aA hsy;have HBY4:=aA b4;have HLVY:=aA hvy;have Tc:=aA (hsy.up b4);have H54:=aA (show dI 73 wr.heap.size (dP { x with vo:=o2,vc:=c2 }).toArray V4 from dL b4 h5y);have HV4:=aA Wy;have UF:=aA sZ;have rW:=aA tZ;have HOE4:=aA (show fK 87 4 fC V4 Y1.heap.size (.slice (some ⟨Y1.heap.size,0,none⟩) 0 0) [] by rw[←Wy];exact DV _ _ _ _);have Yl:=aA (HTV.out V4 Tc.out.below).2;have HVW:=aA Sw.out.wf;have HSZ4:Hid (Y1.heap.size≤V4.heap.size):=aA b4.size;have HSZ5:Hid (wr.heap.size<Y1.heap.size):=aA h5y.lt;have Ii:V4.cell? ⟨wr.heap.size,18,none⟩=some (.slice x.tq x.ts.length x.tc):=by
    rw[aD _ _ _ _ _ _ H54.out];exact (by simpa using nC (x:={ x with vo:=o2,vc:=c2 }) ⟨GU.out.id,GU.out.len,GU.out.num,tZ,GU.out.ID⟩)
   clear d17 Ap hg1 hl2 hb1 Zr hb1' h51 Ao h5y hsy hvy b4 sZ Wy tZ qB H53 HOE LF jP Sw vF oM GV qQ qj Nk NH SP SN;go_wp2_with (first|(rw[UF.out])|(rw[HV4.out])|(at_builtin;refine pD wC rfl (.tmp 20) (.tmp 22) 71 rfl cV Y1.heap.size (.slice (some ⟨Y1.heap.size,0,none⟩) 0 0) [] x.ts rfl HSZ4.out HOE4.out x.tq x.tc rfl GU.out.ID.2 Yl.out.src (fun z _=>rfl) (fun z _=>uR z) (by have:=HFX.out.2;simp;omega) ?_))
   clear e17 g17;intro v3 X2 sA hg2;try rw[cB] at sA
   obtain ⟨o3,c3,rfl,SY,BI⟩:=sA.form (fun z _=>rfl);refine aA ?_;have hb2:Below Y1.heap.size V4 X2:=(aJ _ _).grown hg2 HSZ4.out (fun q hq=>by cases hq;exact aB _);have hb2':Below Y1.heap.size Y1 X2:=HBY4.out.grown hg2 HSZ4.out (fun q hq=>by cases hq;exact aB _);have Zq:∀ {g:Nat} {o:Obj},g<Y1.heap.size→V4.heap[g]?=some o→X2.heap[g]?=some o:=fun hlt h=>by rw[hb2.block _ hlt];exact h
   have h52:dI 73 wr.heap.size (dP { x with vo:=o2,vc:=c2 }).toArray X2:=Zq HSZ5.out H54.out;have hsx2:UD s v l w X2:=HIY.out.up hb2';have hvx2:iX 85 3 (fun z=>z.map encI) X2 V2.heap.size o2 x.vs:=HLVY.out.rows (Rows.of_below hb2');have e18:X2.cell? ⟨wr.heap.size,18,none⟩=some (.slice x.tq x.ts.length x.tc):=by
    rw[aD _ _ _ _ _ _ h52];exact (by simpa using nC (x:={ x with vo:=o2,vc:=c2 }) ⟨GU.out.id,GU.out.len,GU.out.num,rW.out,GU.out.ID⟩)
   have g18:X2.frozen? ⟨wr.heap.size,18,none⟩=false:=dJ h52;obtain ⟨x2,hx2⟩:∃y:eE,{ x with vo:=o2,vc:=c2,tq:=o3,tc:=c3 }=y:=⟨_,rfl⟩;obtain ⟨Y2,lM⟩:∃V,X2.setCell ⟨wr.heap.size,18,none⟩ (.slice o3 x.ts.length c3)=V:=⟨_,rfl⟩;have h5z:dI 73 wr.heap.size (dP x2).toArray Y2:=by
    have:=aM _ _ 18 _ _ (.slice o3 x.ts.length c3) h52;rw[WQ (x:={ x with vo:=o2,vc:=c2 }) GU.out.len] at this;rw[←lM,←hx2];exact this
   have Mk:UD s v l w Y2:=by rw[←lM];exact hsx2.put qR.out HNE.out h52
   have hfx2:gV (w.heap.size+1+1+1) x2 Y2:=by
    have q1:iX 85 3 (fun z=>z.map encI) Y2 V2.heap.size o2 x.vs:=by rw[←lM];exact hvx2.rows (Rows.lT h52 (by decide))
    have q2:iX 87 4 fC Y2 Y1.heap.size o3 x.ts:=by rw[←lM];exact BI.rows (Rows.lT h52 (by decide))
    rw[←hx2];exact ⟨⟨GU.out.id,GU.out.len,GU.out.num,rW.out,SY⟩,q1.base (by have:=qR.out;have:=HSZ2.out;omega),q2.base (by have:=qR.out;have:=HSZ5.out;omega),HVW.out,Yl.out.wf⟩
   obtain ⟨V5,xO⟩:∃V,Y2.alloc (.cells (dP x2).toArray 73)=V:=⟨_,rfl⟩;have b5:Below Y2.heap.size Y2 V5:=by rw[←xO];exact (aJ _ _).alloc (aB _) _
   have hw2:=hfx2.wf;have oN:Hid (Y2.rangeAt wr.heap.size 0 (dP x2)):=aA (fun j u hj=>by rw[bE,aD _ _ _ _ _ _ h5z];simpa using hj);have Hp:=aA (Mk.up b5);have HF5:=aA (hfx2.rows (Rows.of_below b5) (Rows.of_below b5));have mG:=aA (show V5.heap[Y2.heap.size]?=some (.cells (dP x2).toArray 73 (0,0)) by rw[←xO];exact aG _ _);have Rl:Hid ((dP x2).toArray.size=19):=aA (by rw[aL,dX hw2]);have nT:=aA (show (prog.info? 73).map (·.size)=some (dP x2).length by rw[dX hw2];kernel_rfl);obtain ⟨ov,cv,MW,_,_⟩:=Mk.own.form (fun z hz=>dX (Mk.each z hz).wf);subst MW;have Ic:Y2.cell? ⟨w.heap.size+1+1,18,none⟩=some (.slice ov l.length cv):=by rw[aD _ _ _ _ _ _ Mk.twin];exact VK Ym.out _
   have Yx:Hid (eX x2=eX x):=aA (by rw[←hx2];rfl);have GC:Hid (w.heap.size+1+1+1≤V5.heap.size):=aA (by have:=Hp.out.lt;omega);have zI:=aA lM;have UG:=aA xO;clear Ii sA hg2 BI hb2 hb2' Zq h52 hsx2 hvx2 hx2 h5z Mk hfx2 b5 hw2 lM xO SY Tc H54 HOE4 Yl HV4 UF HIY HBY4 HLVY;go_wp2_with (first|(rw[zI.out])|(rw[UG.out])|(with_reducible refine dQ (some 27) rfl ?_;refine aA ?_;refine wpList_load_mid rfl 73 (.tmp 5) rfl wr.heap.size 0 rfl (dP x2) _ oN.out bW rfl nT.out ?_)|(with_reducible refine dQ (some 28) rfl ?_;refine aA ?_;refine jC yH (by omega) rfl (.tmp 27) 26 rfl dA (dP x2).toArray rfl Rl.out ?_)|(at_builtin;refine pD yH rfl (.tmp 26) (.tmp 28) 26 rfl dA (w.heap.size+1+1+1) (.slice ov l.length cv) l [x2] rfl GC.out Hp.out.own (some ⟨Y2.heap.size,0,none⟩) 1 rfl (fun h=>by cases h) (kE mG.out) (fun z hz=>by simp at hz;subst hz;have:=Rl.out;rwa [aL] at this) (fun z _=>lU z) (by have:=HLL.out;simp;omega) ?_))
   clear e18 g18 Ic;intro v4 X3 ho3 hg3;refine aA ?_;obtain ⟨yI,hs3⟩:=Hp.out.step Ym.out ho3 hg3 (fun z hz=>by
    rcases bS.1 hz with hz|hz
    ·exact Hp.out.each z hz
    ·simp at hz
     subst hz;exact HF5.out)
   obtain ⟨ow,cw,tB,_,_⟩:=ho3.form (fun z hz=>dX (hs3.each z hz).wf);subst tB;have Ic:X3.cell? ⟨w.heap.size+1+1,18,none⟩=some (.slice ov l.length cv):=by rw[aD _ _ _ _ _ _ yI];exact VK Ym.out _
   have s19:X3.frozen? ⟨w.heap.size+1+1,18,none⟩=false:=dJ yI;have Co:=aA hs3;have HK3:Hid ((l++[x2]).map eX=(s.os.take (k+1)).map eX):=aA (by rw[HTK.out,List.map_append];simp[Yx.out]);obtain ⟨ml,jH⟩:∃ml,(l++[x2]).length=ml:=⟨_,rfl⟩;rw[jH] at Co ⊢;clear ho3 hg3 yI hs3 jH Hp HF5 mG oN UG zI;go_wp2_with fail;go_roundg (n-(k+1))
   case measure=>omega
   case rel=>exact ⟨k+1,_,l++[x2],rfl,by go_num,by omega,Co.out,HK3.out⟩
  ·obtain rfl:k=n:=by omega
   have t2:¬ (k:Int)<(k:Int):=by omega
   obtain ⟨ov,cv,MW,hcv,hlv⟩:=HI.out.own.form (fun z hz=>dX (HI.out.each z hz).wf);subst MW;obtain ⟨c,hc⟩:∃c:eF,({ s with oo:=ov,os:=l,oc:=cv }:eF)=c:=⟨_,rfl⟩;have hwc:iA c:=by rw[←hc];exact ⟨Ym.out.w,Ym.out.h,Ym.out.len,Ym.out.num,hcv⟩
   have hcL:UN s (.slice ov l.length cv)=fP c:=by rw[←hc];rfl
   have GK:=HI.out.twin;rw[hcL] at GK;have oN:Hid (wr.rangeAt (w.heap.size+1+1) 0 (fP c)):=aA (fun j u hj=>by rw[bE,aD _ _ _ _ _ _ GK];simpa using hj);have vQ:=aA (oU hwc);have nT:=aA (JR c hwc (.slice c.oo c.os.length c.oc));have IL:=aA (show 19=(eU c).size from (sH hwc (.slice c.oo c.os.length c.oc)).symm);have IK:=aA (show (eU c).all (·.oneCell')=true from nA c (.slice c.oo c.os.length c.oc) rfl);have iP:=aA (show dI 28 (w.heap.size+1) #[.int .i64 0,.int .i64 0,.int .i64 0,.int .i64 0,.int .i64 0,.int .i64 0,.int .i64 0,.int .i64 0,.int .i64 0,.int .i64 0,.int .i64 0,.int .i64 0,.int .i64 0,.int .i64 0,.int .i64 0,.int .i64 0,.int .i64 0,.int .i64 0,.slice none 0 0] wr from HI.out.res);have hall:=HKL.out;rw[bB (by rw[AG.out];omega)] at hall;obtain ⟨Y,hY⟩:∃V,wr.setRow (w.heap.size+1) (eU c)=V:=⟨_,rfl⟩;have hry:dI 28 (w.heap.size+1) (eU c) Y:=by rw[←hY];exact iP.out.row _
   have AE:=aA hry;have vN:∀ {t:TypeId},t≠28→Rows t wr Y:=fun hne g cur hg=>by
    rw[←hY,setRow_other _ _ _ _ (fun e=>by
     subst e;have:=iP.out;unfold dI at this;rw[this] at hg
     cases hg;exact hne rfl)]
    exact hg
   have HE:Hid (Qm s w (.returned (.agg (eU c))) Y):=aA ⟨c,rfl,by rw[←hc];unfold eQ;rw[hall],⟨hwc,by rw[←hc];exact (hlv.rows (vN (by decide))).base (by omega),fun z hz=>by
    rw[←hc] at hz;exact ((HI.out.each z hz).rows (vN (by decide)) (vN (by decide))).base (by omega)⟩,by rw[←hY];exact Below.row HI.out.below (by omega) _⟩
   have HYY:=aA hY;clear GK hwc hcv hlv hcL hall hry vN hY HI HKL hc;go_wp2_with (first|(rw[HYY.out])|(with_reducible refine dQ (some 32) rfl ?_;refine aA ?_;refine wpList_load_mid rfl 28 (.tmp 3) rfl (w.heap.size+1+1) 0 rfl (fP c) _ oN.out aW rfl vQ.out ?_)|(refine dG rfl 28 (.tmp 2) (.tmp 32) rfl (w.heap.size+1) _ _ (eU c) rfl rfl iP.out nT.out IL.out IK.out ?_))
   refine aO (v:=.agg (eU c)) (results_cell_row rfl _ _ (w.heap.size+1) _ (eU c) _ _ rfl AE.out aW rfl nT.out) rfl ?_;exact HE.out
end Fx
end Go.Proofs.YtbbhmhihpdmoiaaGreat
