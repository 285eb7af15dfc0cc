import Derived.Test.YtbbhmhihpdmoiaaGreatJf22
set_option linter.unusedVariables false
set_option linter.unusedSimpArgs false
set_option maxRecDepth 100000
set_option maxHeartbeats 32000000
namespace Go.Proofs.YtbbhmhihpdmoiaaGreat
open Go.Proofs.Tryz
namespace Fx
open Go Go.RowKit
open Pk (fW By Bs)
theorem Qa {mk l:List Nat}(pW:behind mk l=none):kK mk l≠0:=by
 unfold behind at pW;unfold kK
 cases ho:Cx.opened l with
 | none=>simp
 | some m =>
  rw[ho] at pW;dsimp only at pW ⊢
  split at pW
  ·cases pW
  ·rename_i hh
   rw[bF hh]
   decide
theorem PK (l:List Nat)(o:Option Addr)(c:Nat)(w:World)(hl:By l)(hlen:l.length≤900000)(hc:l.length≤c)(hc2:c≤9223372036854775807)(hb:Bs w o l) :
  Calls prog 17 #[.slice o l.length c] w (KZ l w):=by
 obtain ⟨V0,jR⟩:∃V,w.alloc (.cells #[.int .i64 0,.int .i64 0,.int .i64 0,.int .i64 0,.int .i64 0,.int .i64 0,.int .i64 0,.int .i64 0,.int .i64 0,.int .i64 0,.int .i64 0,.int .i64 0,.int .i64 0,.int .i64 0,.int .i64 0,.int .i64 0,.int .i64 0,.int .i64 0,.slice none 0 0] 28)=V:=⟨_,rfl⟩;have hb0:Below w.heap.size w V0:=by rw[←jR];exact (aJ _ _).alloc (aB _) _
 have zS:dI 28 w.heap.size #[.int .i64 0,.int .i64 0,.int .i64 0,.int .i64 0,.int .i64 0,.int .i64 0,.int .i64 0,.int .i64 0,.int .i64 0,.int .i64 0,.int .i64 0,.int .i64 0,.int .i64 0,.int .i64 0,.int .i64 0,.int .i64 0,.int .i64 0,.int .i64 0,.slice none 0 0] V0:=by rw[←jR];exact dI.new _ _ _
 have hz0:V0.heap.size=w.heap.size+1:=by rw[←jR];simp
 have HO:=aA (CL fS tM rfl l o c V0 hl hlen hc hc2 (hb.below hb0));rw[show Pk.fR fS=⟨#[109,117,108,49]⟩ from rfl] at HO;have CH:=aA hb0;have tA:=aA zS;have GR:=aA hz0;have oJ:=aA jR;have Ar:=aA (show (prog.info? 28).map (·.size)=some (eU fL).size by kernel_rfl);have hsz:=aA (show 19=(eU fL).size from rfl);have dw:=aA (show (eU fL).all (·.oneCell')=true from nA fL (.slice none 0 0) rfl);clear hb0 zS jR hl hlen hc hc2 hb hz0;have HFZ:Hid (∀ (ec:Int) (X:World),oI l=(none,ec)→Below w.heap.size w X→KZ l w (.returned (.tuple #[.agg (eU fL),.int .i64 ec])) X):=aA (fun ec X hd hb=>⟨⟨fL,by rw[hd],yX _ _,by rw[hd];rfl⟩,hb⟩);replace HO:=aA (HO.out.mono fun e w' h=>uO.use h)
 cases pW:behind fS l with
 | none =>
  have HD:Hid (oI l=(none,kK fS l)):=aA (by unfold oI;rw[pW]);have HNZ:Hid (kK fS l≠0):=aA (Qa pW);simp only[pW] at HO;have hnz:=HNZ.out;generalize kK fS l=ec at HO HD hnz;clear pW HNZ;go_enter func17,ntmps17;go_wp2_with (rw[oJ.out])
  refine HO.out.mono ?_;rintro e w1 ⟨hb1,rfl⟩;have qQ:=aA (tA.out.below hb1);have jK:=aA (dN CH.out hb1);clear hb1 HO oJ tA;go_wp2_with (first|(with_reducible refine dQ (some 18) rfl ?_;refine aA ?_;refine fY rfl (.agg (eU fL)) w1 (by kernel_rfl) ?_)|(refine dG rfl 28 (.tmp 2) (.tmp 18) rfl w.heap.size _ _ (eU fL) rfl rfl qQ.out Ar.out hsz.out dw.out ?_))
  refine aO (v:=.tuple #[.agg (eU fL),.int .i64 ec]) (jE rfl _ _ w.heap.size rfl (.int .i64 ec) rfl 28 (eU fL) _ (setRow_heap _ _ _ _ _ _ qQ.out) aW rfl Ar.out) rfl ?_;exact HFZ.out ec _ HD.out (Below.row jK.out (aB _) _)
 | some r =>
  simp only[pW] at HO;have JD:=aA pW;clear pW;go_enter func17,ntmps17;go_wp2_with (rw[oJ.out])
  refine HO.out.mono ?_;rintro e w1 ⟨hb1,m,p,o1,c1,hmr,jH,rfl,zT,hk,hp,iE⟩;rw[GR.out] at hp;have hpl:w.heap.size<p∧p<w1.heap.size:=⟨by omega,zT.lt⟩;obtain ⟨V1,hV1⟩:∃V,w1.alloc (.cells #[.int .i64 0,.int .i64 0,.int .i64 0,.int .i64 0,.int .i64 0,.int .i64 0,.int .i64 0,.int .i64 0,.int .i64 0,.int .i64 0,.int .i64 0,.int .i64 0,.int .i64 0,.int .i64 0,.int .i64 0,.int .i64 0,.int .i64 0,.int .i64 0,.slice none 0 0] 28)=V:=⟨_,rfl⟩;obtain ⟨V2,hV2⟩:∃V,V1.setRow w1.heap.size (eU fL)=V:=⟨_,rfl⟩;have hx1:dI 28 w1.heap.size #[.int .i64 0,.int .i64 0,.int .i64 0,.int .i64 0,.int .i64 0,.int .i64 0,.int .i64 0,.int .i64 0,.int .i64 0,.int .i64 0,.int .i64 0,.int .i64 0,.int .i64 0,.int .i64 0,.int .i64 0,.int .i64 0,.int .i64 0,.int .i64 0,.slice none 0 0] V1:=by rw[←hV1];exact dI.new _ _ _
  have yK:Below w1.heap.size w1 V2:=by rw[←hV2,←hV1];exact Below.row ((aJ _ _).alloc (aB _) _) (aB _) _
  have hobg:∀b off,o1=some ⟨b,off,none⟩→0<m.length→b<w1.heap.size:=fun b off e h=>Nat.lt_trans (iE b off e h) hpl.2
  have h0:OY o1 c1 m p w1.heap.size 4 false (0,0,dZ) (.slice none 0 0) w V2 :=
   ⟨dL yK (tA.out.below hb1),by rw[←hV2];exact hx1.row _,zT.below yK,hk.at',dN (dN CH.out hb1) yK⟩
  have H0:=aA h0;have zJ:=aA hpl;have jA:=aA hobg;have HK:=aA hk;have OI:=aA hmr;have CG:=aA jH;have nu:=aA hx1;have vF:=aA hV1;have oM:=aA hV2;have yT:=aA (mY 64 (by omega) o1 c1 m p 4 false V2 hk h0.rd);clear hb1 hmr jH zT hk hp iE hpl hV1 hV2 hx1 yK hobg h0 HO oJ tA CH GR;go_wp2_with (first|(rw[vF.out])|(rw[oM.out])|(with_reducible refine dQ (some 20) rfl ?_;refine aA ?_;refine fY rfl (.agg (eU fL)) w1 (by kernel_rfl) ?_)|(refine dG rfl 28 (.tmp 6) (.tmp 20) rfl w1.heap.size _ _ (eU fL) rfl rfl nu.out Ar.out hsz.out dw.out ?_))
  clear vF oM nu;generalize w1.heap.size=g at *;refine yT.out.mono ?_;rintro e w2 h2;obtain ⟨hg2,x1,a1,lo1,rfl,oF,qP,zV,hr1⟩:=mB.use h2;have zQ:=H0.out.step zJ.out.1 zJ.out.2 hg2 qP zV;obtain ⟨q0,f0⟩:=zQ.cell (j:=0) rfl;have tX:=zQ.set (j:=0) (u:=.int .i64 x1) (f2:=(x1,0,dZ)) (v2:=.slice none 0 0) zJ.out.1 zJ.out.2 jA.out rfl;obtain ⟨Y1,sZ⟩:∃V,w2.setCell ⟨g,0,none⟩ (.int .i64 x1)=V:=⟨_,rfl⟩;rw[sZ] at tX;have H2:=aA tX;have OH:=aA oF;have qQ:=aA hr1;have UF:=aA sZ;have Cp:=aA (mY 64 (by omega) o1 c1 m p a1 lo1 Y1 (iH HK.out zV) tX.rd);clear h2 hg2 oF qP zV hr1 zQ tX sZ yT H0;go_wp2_with (rw[UF.out])
  clear UF q0 f0;refine Cp.out.mono ?_;rintro e w3 h2;obtain ⟨hg2,x2,a2,lo2,rfl,oF,qP,zV,hr1⟩:=mB.use h2;have zQ:=H2.out.step zJ.out.1 zJ.out.2 hg2 qP zV;obtain ⟨q0,f0⟩:=zQ.cell (j:=1) rfl;have tX:=zQ.set (j:=1) (u:=.int .i64 x2) (f2:=(x1,x2,dZ)) (v2:=.slice none 0 0) zJ.out.1 zJ.out.2 jA.out rfl;obtain ⟨Y2,lM⟩:∃V,w3.setCell ⟨g,1,none⟩ (.int .i64 x2)=V:=⟨_,rfl⟩;rw[lM] at tX;have H3:=aA tX;have wT:=aA oF;have iP:=aA hr1;have zI:=aA lM;have pM:∀b off,o1=some ⟨b,off,none⟩→0<m.length→b<Y2.heap.size:=fun b off e hm=>Nat.lt_trans (jA.out b off e hm) (aC.1 tX.box).1
  have HM:=aA (JH o1 c1 m p a2 lo2 Y2 (iH HK.out zV) tX.rd pM);clear h2 hg2 oF qP zV hr1 zQ tX lM pM Cp H2;go_wp2_with (rw[zI.out])
  clear zI q0 f0;refine HM.out.mono ?_;rintro e w4 h2;obtain ⟨hg2,cs,a3,lo3,rfl,nS,rH,hl2,hr2⟩:=mB.use h2;have yI:=H3.out.step zJ.out.1 zJ.out.2 hg2 rH hl2;have oV:w4.there g 2 (mC cs).size:=fun j hj=>by
   rw[eV,nS.1] at hj;refine ⟨?_,dJ yI.box⟩;rw[aD _ _ _ _ _ _ yI.box];simp[pX,dZ];omega
  obtain ⟨Y3,NQ⟩:∃V,w4.setCells g 2 (mC cs).toList=V:=⟨_,rfl⟩;have MX:OY o1 c1 m p g a3 lo3 (x1,x2,cs) (.slice none 0 0) w Y3:=by
   have EN:Below g w4 Y3:=by rw[←NQ];exact lG (aB _) _ _ ⟨rfl,rfl,rfl,aB _,fun _ _=>rfl⟩
   refine yI.put zJ.out.1 zJ.out.2 jA.out EN ?_;have:=lO (mC cs).toList [.int .i64 x1,.int .i64 x2] (dZ.map encI) [.slice none 0 0] w4 (by simp[mC,dZ,nS.1]) (by exact yI.box);rw[←NQ];rw[show ([Value.int .i64 x1,Value.int .i64 x2]:List Value).length=2 from rfl] at this;rw[this];simp[pX,mC]
  have nT:=aA (show (prog.info? 25).map (·.size)=some (mC cs).size by rw[eV,nS.1];kernel_rfl);have Sx:=aA oV;have H4:=aA MX;have HN3:=aA nS;have xZ:=aA hr2;have Yi:=aA NQ;have Co:=aA (mY 16 (by omega) o1 c1 m p a3 lo3 Y3 (iH HK.out hl2) MX.rd);clear h2 hg2 nS rH hl2 hr2 yI MX oV NQ HM H3;go_wp2_with (first|(rw[Yi.out])|(refine wpList_store_mid rfl 25 (.tmp 29) (.tmp 28) rfl g 2 (mC cs) rfl rfl Sx.out nT.out (iV _) ?_))
  clear Yi Sx;refine Co.out.mono ?_;rintro e w5 h3;obtain ⟨hg3,nz,a4,Ad,rfl,hnz,xX,BI,hr3⟩:=mB.use h3;obtain ⟨nv,rfl⟩:=Int.eq_ofNat_of_zero_le hnz.1;have v16:(nv:Int)≤16:=hnz.2;have v0:(0:Int)≤(nv:Int):=by omega
  have GX:Hid (Ha o1 c1 m p g a4 Ad (x1,x2,cs) (.slice none ([]:List eE).length 0) [] w w5):=aA ⟨H4.out.step zJ.out.1 zJ.out.2 hg3 xX BI,fK.nil _ _ _ _ _,fun z hz=>by simp at hz⟩;have Sz:=aA hr3;clear h3 hg3 xX BI hr3 hnz Co H4;go_wp2_with fail;go_loopg[8] nv (fun t s8 wx=>∃ (zs:List eE) (ov:Option Addr) (cv b:Nat) (lo:Bool),t=nv-zs.length∧s8=.int .i64 (zs.length:Int)∧zs.length≤nv∧Ha o1 c1 m p g b lo (x1,x2,cs) (.slice ov zs.length cv) zs w wx∧eP Ad (fE oC zs.length) m a4=opt lo (zs.map eX,b))
  case atStart=>exact ⟨[],none,0,a4,Ad,rfl,rfl,by simp,GX.out,nI _ _ _ _⟩
  case round =>
   obtain ⟨zs,ov,cv,b,lo,rfl,rfl,hk,hj,hrun⟩:=hrel;obtain ⟨w6,kA⟩:∃X,X=wr:=⟨_,rfl⟩;subst kA;have HJ:=aA hj;have Rb:=aA hrun;clear hj hrun GX;obtain ⟨nvs,hnvs⟩:∃n,zs.length=n:=⟨_,rfl⟩;have k0:(0:Int)≤(zs.length:Int):=by omega
   clear hnvs;by_cases pK:zs.length<nv
   ·have t2:(zs.length:Int)<(nv:Int):=by omega
    have HVL:=aA (show zs.length≤1000 by omega);have HOC:=aA (Iy w.heap.size o1 c1 m p b lo w6 (by have:=HJ.out.lt;have:=zJ.out;omega) (iH HK.out HJ.out.base.le) HJ.out.base.rd (fun bb off e hm=>Nat.lt_trans (jA.out bb off e hm) HJ.out.lt));go_wp2_with fail;refine HOC.out.mono ?_;rintro e x7 h3;obtain ⟨hg,x,b7,lo7,rfl,Fe,hp,hl,hr⟩:=mB.use h3;have jx:=HJ.out.step zJ.out.1 zJ.out.2 hg hp hl;obtain ⟨V3,oG⟩:∃V,x7.alloc (.cells #[.int .i64 0,.int .i64 0,.int .i64 0,.int .i64 0,.int .i64 0,.int .i64 0,.int .i64 0,.int .i64 0,.int .i64 0,.int .i64 0,.int .i64 0,.int .i64 0,.int .i64 0,.int .i64 0,.int .i64 0,.int .i64 0,.int .i64 0,.slice none 0 0,.slice none 0 0] 73)=V:=⟨_,rfl⟩;obtain ⟨V4,Wy⟩:∃V,V3.setRow x7.heap.size (dP x).toArray=V:=⟨_,rfl⟩;obtain ⟨V5,xO⟩:∃V,V4.alloc (.cells (dP x).toArray 73)=V:=⟨_,rfl⟩;have r1:dI 73 x7.heap.size #[.int .i64 0,.int .i64 0,.int .i64 0,.int .i64 0,.int .i64 0,.int .i64 0,.int .i64 0,.int .i64 0,.int .i64 0,.int .i64 0,.int .i64 0,.int .i64 0,.int .i64 0,.int .i64 0,.int .i64 0,.int .i64 0,.int .i64 0,.slice none 0 0,.slice none 0 0] V3:=by rw[←oG];exact dI.new _ _ _
    have r2:dI 73 x7.heap.size (dP x).toArray V4:=by rw[←Wy];exact r1.row _
    have b4:Below x7.heap.size x7 V4:=by rw[←Wy,←oG];exact Below.row ((aJ _ _).alloc (aB _) _) (aB _) _
    have b5:Below V4.heap.size V4 V5:=by rw[←xO];exact (aJ _ _).alloc (aB _) _
    have JA:=aA (jx.up b4);have sX:=aA ((jx.up b4).up b5);have oN:=aA (show V4.rangeAt x7.heap.size 0 (dP x) from fun j u hj=>by rw[bE,aD _ _ _ _ _ _ r2];simpa using hj);have mG:=aA (show V5.heap[V4.heap.size]?=some (.cells (dP x).toArray 73 (0,0)) by rw[←xO];exact aG _ _);have HF5:=aA (show gV w.heap.size x V5 from (Fe.rows (Rows.of_below b4) (Rows.of_below b4)).rows (Rows.of_below b5) (Rows.of_below b5));have hw2:=Fe.wf;have Nk:=aA (show (prog.info? 73).map (·.size)=some (dP x).length by rw[dX hw2];kernel_rfl);have NH:=aA (show (prog.info? 73).map (·.size)=some (dP x).toArray.size by rw[aL,dX hw2];kernel_rfl);have SP:=aA (show 19=(dP x).toArray.size by rw[aL,dX hw2]);have Rl:Hid ((dP x).toArray.size=19):=aA (by rw[aL,dX hw2]);have SN:Hid ((dP x).toArray.all (·.oneCell')=true):=aA (by rw[List.all_toArray,bU];exact fun u hu=>lU x u hu);have Ic:V4.cell? ⟨g,18,none⟩=some (.slice ov zs.length cv):=(JA.out.base.cell (j:=18) (by simp[pX,HN3.out.1])).1;have GC:Hid (g+1≤V5.heap.size):=aA (by have:=sX.out.lt;omega);have HRX0:=aA r1;have HOR:=aA hr;have GV:=aA oG;have HV4:=aA Wy;have UG:=aA xO;clear h3 hg Fe hp hl hr jx r1 r2 b4 b5 hw2 oG Wy xO HJ HOC;go_wp2_with (first|(rw[GV.out])|(rw[HV4.out])|(rw[UG.out])|(refine dG rfl 73 (.tmp 9) (.tmp 38) rfl x7.heap.size _ _ (dP x).toArray rfl rfl HRX0.out NH.out SP.out SN.out ?_)|(with_reducible refine dQ (some 41) rfl ?_;refine aA ?_;refine wpList_load_mid rfl 73 (.tmp 9) rfl x7.heap.size 0 rfl (dP x) _ oN.out bW rfl Nk.out ?_)|(with_reducible refine dQ (some 42) rfl ?_;refine aA ?_;refine jC yH (by omega) rfl (.tmp 41) 26 rfl dA (dP x).toArray rfl Rl.out ?_)|(at_builtin;refine pD yH rfl (.tmp 40) (.tmp 42) 26 rfl dA (g+1) (.slice ov zs.length cv) zs [x] rfl GC.out sX.out.own (some ⟨V4.heap.size,0,none⟩) 1 rfl (fun h=>by cases h) (kE mG.out) (fun z hz=>by simp at hz;subst hz;have:=Rl.out;rwa [aL] at this) (fun z _=>lU z) (by have:=HVL.out;simp;omega) ?_))
    clear Ic;intro v4 X5 ND SS;refine aA ?_;obtain ⟨ow,cw,tB,_,_⟩:=ND.form (fun z hz=>by
     rcases bS.1 hz with hz|hz
     ·exact dX (sX.out.each z hz).wf
     ·simp at hz;subst hz;exact dX HF5.out.wf)
    subst tB;have GN:=sX.out.app zJ.out.1 zJ.out.2 jA.out HN3.out.1 ND SS HF5.out;have f18:X5.cell? ⟨g,18,none⟩=some (.slice ov zs.length cv):=GN.1;have f19:X5.frozen? ⟨g,18,none⟩=false:=GN.2.1;have OL:=aA GN.2.2;have Cq:=aA (iD Rb.out HOR.out);obtain ⟨ml,jH⟩:∃ml,(zs++[x]).length=ml:=⟨_,rfl⟩;have Yw:=aA jH;rw[jH] at OL ⊢;clear ND SS GN jH sX mG oN UG HV4 GV JA HRX0;go_wp2_with fail;go_roundg (nv-(zs.length+1))
    case measure=>omega
    case rel=>exact ⟨zs++[x],ow,cw,_,_,by simp,by rw[aI];go_num,by simp;omega,by rw[Yw.out];exact OL.out,by rw[aI,List.map_append];exact Cq.out⟩
   ·have t2:¬ (zs.length:Int)<(nv:Int):=by omega
    have zR:=uS Sz.out (by rw[show ((nv:Int)).toNat=zs.length by omega];exact Rb.out);have hend:=Pb (f:=(x1,x2,cs)) OI.out CG.out qQ.out iP.out xZ.out zR HJ.out.base.le;obtain ⟨oo,oc,e1,gR,tY⟩:=HJ.out.own.form (fun z hz=>dX (HJ.out.each z hz).wf)
    cases e1;obtain ⟨s,hs⟩:∃s:eF,(⟨x1,x2,cs,ov,zs,cv⟩:eF)=s:=⟨_,rfl⟩;have sY:iA s:=by rw[←hs];exact ⟨kX (by omega) OH.out,kX (by omega) wT.out,HN3.out.1,fun j=>by
     show Num (cs.getD j 0);rw[aS]
     cases hz:cs[j]? with
     | none=>exact ⟨by simp,by simp⟩
     | some z=>exact HN3.out.2 z (aX hz),gR⟩
    have hfs:fF w.heap.size s w6:=by
     rw[←hs] at sY ⊢;exact ⟨sY,tY.base (by have:=zJ.out;omega),HJ.out.each⟩
    have HX5:=aA (show w6.heap[g]?=some (.cells (fP s).toArray 28 (0,0)) by rw[←hs];exact HJ.out.base.box);have Rf:=aA (show dI 28 w.heap.size #[.int .i64 0,.int .i64 0,.int .i64 0,.int .i64 0,.int .i64 0,.int .i64 0,.int .i64 0,.int .i64 0,.int .i64 0,.int .i64 0,.int .i64 0,.int .i64 0,.int .i64 0,.int .i64 0,.int .i64 0,.int .i64 0,.int .i64 0,.int .i64 0,.slice none 0 0] w6 from HJ.out.base.res);have AH:=aA HJ.out.base.below;have HFS:=aA hfs;have HKEY:=aA (show eQ s=(x1,x2,cs,zs.map eX) by rw[←hs];rfl);have pF:=aA hend;have pG:=aA (Pk.PH o1 c1 m p b lo w6 (iH HK.out HJ.out.base.le) HJ.out.base.rd);clear zR hend gR tY hs sY hfs HJ Rb;generalize Ff:Pk.pB lo m.length b=ec at pG pF;clear Ff;by_cases hz:ec=0
    ·subst hz
     obtain ⟨_,MZ⟩:=pF.out.1 rfl;rw[←HKEY.out] at MZ;have JB:=aA (Bt JD.out MZ);clear MZ pF JD;go_wp2_with fail;refine pG.out.mono ?_;rintro e w7 ⟨rfl,hb⟩;have hx6:=dL hb HX5.out;have yL:fF w.heap.size s w7:=HFS.out.rows (Rows.of_below hb) (Rows.of_below hb) (Rows.of_below hb);have Yj:=aA (show w7.rangeAt g 0 (fP s) from fun j u hj=>by rw[aD _ _ _ _ _ _ hx6,bE];simpa using hj);have YK:=aA (show dI 28 w.heap.size #[.int .i64 0,.int .i64 0,.int .i64 0,.int .i64 0,.int .i64 0,.int .i64 0,.int .i64 0,.int .i64 0,.int .i64 0,.int .i64 0,.int .i64 0,.int .i64 0,.int .i64 0,.int .i64 0,.int .i64 0,.int .i64 0,.int .i64 0,.int .i64 0,.slice none 0 0] w7 from dL hb Rf.out);have Ht:=aA (dN AH.out hb);have HC:=aA (show Calls prog 34 #[.agg (fP s).toArray] w7 (wN (mK s) w7) from CK s w7 yL.wf yL.at);have HF6:=aA yL;have Wi:=aA (show (prog.info? 28).map (·.size)=some (fP s).length by simp only[fP,bO,aI,aT,yL.wf.len,List.length_nil];kernel_rfl);have YO:=aA (show (prog.info? 28).map (·.size)=some (fP s).toArray.size by rw[aL];exact Wi.out);have Cn:=aA (show 19=(fP s).toArray.size by simp[fP,yL.wf.len]);have HO6:=aA (show (fP s).toArray.all (·.oneCell')=true from nA s (.slice s.oo s.os.length s.oc) rfl);clear hx6 yL hb pG HX5 Rf AH HFS HKEY;rw[←DW] at JB;unfold wN at HC
     cases hk2:mK s
     ·rw[hk2] at HC JB
      simp only[bD,if_false] at HC JB;go_wp2_with (with_reducible refine dQ (some 50) rfl ?_;refine aA ?_;refine wpList_load_mid rfl 28 (.tmp 6) rfl g 0 rfl (fP s) _ Yj.out aW rfl Wi.out ?_)
      refine HC.out.mono ?_;rintro e w8 ⟨rfl,hb⟩;have Hl:=aA (show dI 28 w.heap.size #[.int .i64 0,.int .i64 0,.int .i64 0,.int .i64 0,.int .i64 0,.int .i64 0,.int .i64 0,.int .i64 0,.int .i64 0,.int .i64 0,.int .i64 0,.int .i64 0,.int .i64 0,.int .i64 0,.int .i64 0,.int .i64 0,.int .i64 0,.int .i64 0,.slice none 0 0] w8 from dL hb YK.out);have HB7:=aA (dN Ht.out hb);clear hb HC YK Ht;go_wp2_with (first|(with_reducible refine dQ (some 54) rfl ?_;refine aA ?_;refine fY rfl (.agg (eU fL)) w8 (by kernel_rfl) ?_)|(refine dG rfl 28 (.tmp 2) (.tmp 54) rfl w.heap.size _ _ (eU fL) rfl rfl Hl.out Ar.out hsz.out dw.out ?_))
      refine aO (v:=.tuple #[.agg (eU fL),.int .i64 60]) (jE rfl _ _ w.heap.size rfl (.int .i64 60) rfl 28 (eU fL) _ (setRow_heap _ _ _ _ _ _ Hl.out) aW rfl Ar.out) rfl ?_;exact HFZ.out 60 _ JB.out (Below.row HB7.out (aB _) _)
     ·rw[hk2] at HC JB
      simp only[if_true] at HC JB;go_wp2_with (with_reducible refine dQ (some 50) rfl ?_;refine aA ?_;refine wpList_load_mid rfl 28 (.tmp 6) rfl g 0 rfl (fP s) _ Yj.out aW rfl Wi.out ?_)
      refine HC.out.mono ?_;rintro e w8 ⟨rfl,hb⟩;have HX7:=aA (show w8.rangeAt g 0 (fP s) from iC hb Yj.out);have Hl:=aA (show dI 28 w.heap.size #[.int .i64 0,.int .i64 0,.int .i64 0,.int .i64 0,.int .i64 0,.int .i64 0,.int .i64 0,.int .i64 0,.int .i64 0,.int .i64 0,.int .i64 0,.int .i64 0,.int .i64 0,.int .i64 0,.int .i64 0,.int .i64 0,.int .i64 0,.int .i64 0,.slice none 0 0] w8 from dL hb YK.out);have HB7:=aA (dN Ht.out hb);have HF7:=aA (show fF w.heap.size s w8 from HF6.out.rows (Rows.of_below hb) (Rows.of_below hb) (Rows.of_below hb));clear hb HC YK Ht Yj HF6;go_wp2_with (first|(with_reducible refine dQ (some 55) rfl ?_;refine aA ?_;refine wpList_load_mid rfl 28 (.tmp 6) rfl g 0 rfl (fP s) _ HX7.out aW rfl Wi.out ?_)|(refine dG rfl 28 (.tmp 2) (.tmp 55) rfl w.heap.size _ _ (fP s).toArray rfl rfl Hl.out YO.out Cn.out HO6.out ?_))
      refine aO (v:=.tuple #[.agg (fP s).toArray,.int .i64 0]) (jE rfl _ _ w.heap.size rfl (.int .i64 0) rfl 28 (fP s).toArray _ (setRow_heap _ _ _ _ _ _ Hl.out) aW rfl YO.out) rfl ?_;refine ⟨⟨s,by rw[JB.out];rfl,?_,by rw[JB.out];rfl⟩,Below.row HB7.out (aB _) _⟩;have vN:∀ {t:TypeId},t≠28→Rows t w8 (w8.setRow w.heap.size (fP s).toArray):=fun hne q cur hq=>by
       rw[setRow_other _ _ _ _ (fun e=>by
        subst e;have:=Hl.out;unfold dI at this;rw[this] at hq
        cases hq;exact hne rfl)]
       exact hq
      exact HF7.out.rows (vN (by decide)) (vN (by decide)) (vN (by decide))
    ·have JB:=aA (Po JD.out (pF.out.2 hz))
     clear pF JD;go_wp2_with fail;refine pG.out.mono ?_;rintro e w7 ⟨rfl,hb⟩;have YK:=aA (show dI 28 w.heap.size #[.int .i64 0,.int .i64 0,.int .i64 0,.int .i64 0,.int .i64 0,.int .i64 0,.int .i64 0,.int .i64 0,.int .i64 0,.int .i64 0,.int .i64 0,.int .i64 0,.int .i64 0,.int .i64 0,.int .i64 0,.int .i64 0,.int .i64 0,.int .i64 0,.slice none 0 0] w7 from dL hb Rf.out);have Ht:=aA (dN AH.out hb);clear hb pG Rf AH;go_wp2_with (first|(with_reducible refine dQ (some 49) rfl ?_;refine aA ?_;refine fY rfl (.agg (eU fL)) w7 (by kernel_rfl) ?_)|(refine dG rfl 28 (.tmp 2) (.tmp 49) rfl w.heap.size _ _ (eU fL) rfl rfl YK.out Ar.out hsz.out dw.out ?_))
     refine aO (v:=.tuple #[.agg (eU fL),.int .i64 70]) (jE rfl _ _ w.heap.size rfl (.int .i64 70) rfl 28 (eU fL) _ (setRow_heap _ _ _ _ _ _ YK.out) aW rfl Ar.out) rfl ?_;exact HFZ.out 70 _ JB.out (Below.row Ht.out (aB _) _)
end Fx
namespace Fx
open Go Go.RowKit Go.Lib
open Pk (fW By Bs)
theorem Tk (o:Option Addr)(c:Nat)(l:List Nat)(p a:Nat)(lost:Bool)(w:World)(k:fW l a)(hq:l.length≤c∧(o=none→c=0))(hsp:0<c→∀a,o=some a→a.spot=none)(h:Pk.ZR o c l p a lost w) :
  Calls prog 58 #[.pointer (some ⟨p,0,none⟩),.int .i64 65536] w (mB gO AA.l pN (fun x=>.slice x.o x.l.length x.c) o c l p a lost w):=by
 have hk:=k.at';have htl:∀q,Pk.CO lost 65536 l a=some q→a+q.2≤l.length:=fun q hq=>by
  unfold Pk.CO at hq
  cases hz:Pk.rz lost 65536 (l.drop a) with
  | none=>rw[hz] at hq;cases hq
  | some q2 =>
   obtain ⟨n,j⟩:=q2;rw[hz] at hq;dsimp only at hq
   split at hq
   ·rename_i hle
    cases hq;show a+(j+n)≤l.length;have hj:a+j≤l.length:=by
     have hs:=kM (lost:=lost) (most:=65536) (l:=l) (a:=a);rw[show Pk.rz lost ((65536:Nat):Int) (l.drop a)=some (n,j) from hz] at hs;simp only[Option.map_some] at hs;unfold eP at hs
     split at hs
     ·cases hs
     ·have:=zD hk hs.symm
      omega
    omega
   ·cases hq
 have SE:=JV lost l a;refine (Pk.VB o c l p a 65536 lost w k (by omega) hq hsp h).mono ?_;generalize Pk.CO lost 65536 l a=R at *;rintro e w' ⟨⟨v,rfl,hown⟩,hz,hg⟩;obtain ⟨o1,c1,rfl,mJ,hc1,hc2,oF,hs1⟩:=hown.open;refine ⟨hg,⟨o1,c1,(R.map (·.1)).getD []⟩,rfl,⟨hown.mono (cK _),fun b off e=>?_⟩,?_⟩
 ·obtain ⟨g,e2,_,h2,_⟩:=hs1 _ e
  cases e2;exact h2
 ·rw[SE]
  cases R with
  | none=>exact ⟨a,hk,hz⟩
  | some q=>exact ⟨rfl,htl q rfl,hz⟩
theorem uO.useF {l:List Nat}{w w':World}{e:Ending}(h:uO fQ l w e w'):Below w.heap.size w w'∧match behind fQ l with
  | none=>e=.returned (.tuple #[.pointer none,.int .i64 (kK fQ l)])
  | some r=>∃m p o c,m.drop 4=r∧r.length+4=m.length∧e=.returned (.tuple #[.pointer (some ⟨p,0,none⟩),.int .i64 0])∧Pk.ZR o c m p 4 false w'∧fW m 4∧m.length≤c∧(o=none→c=0)∧(0<c→∀a,o=some a→a.spot=none)∧w.heap.size≤p∧(∀b off,o=some ⟨b,off,none⟩→0<m.length→b<p):=by
 obtain ⟨hb,h⟩:=h;refine ⟨hb,?_⟩;unfold behind
 cases ho:Cx.opened l with
 | none =>
  rw[ho] at h;exact h
 | some m =>
  rw[ho] at h;dsimp only at h ⊢;rw[show fQ.length=4 from rfl];by_cases hm:m.take 4=fQ
  ·rw[aZ hm] at h ⊢
   obtain ⟨p,oo,cc,he,hr,hk,h1,_,h3,h4,hp,hq⟩:=h;exact ⟨m,p,oo,cc,rfl,by rw[cQ];have:=hk.at';omega,he,hr,hk,h1,h3,h4,hp,fun b off e hl=>(hq b off e hl).2⟩
  ·rw[bF hm] at h ⊢
   exact h
theorem Gg {m r:List Nat}(hr:m.drop 4=r)(hlen:r.length+4=m.length){ts:List (List Nat)}{a2:Nat}{lo2:Bool}(h2:eP false (fG 100 gO) m 4=opt lo2 (ts,a2))(hl:a2≤m.length) :
  (Pk.pB lo2 m.length a2=0→fG 100 gO r 0=some (ts,r.length))∧(Pk.pB lo2 m.length a2≠0→∀k b,fG 100 gO r 0=some (k,b)→b≠r.length):=by
 have e1:eP false (fG 100 gO) m 4=fG 100 gO m 4:=rfl;have e2:fG 100 gO m 4=(fG 100 gO r 0).map fun q=>(q.1,4+q.2):=by
  have:=Shift.many 100 Shift.text m 4 0
  rwa [hr] at this
 rw[e1,e2] at h2;unfold Pk.pB
 cases lo2
 ·simp only[opt,bD,if_false,false_or] at h2 ⊢
  rw[Option.map_eq_some_iff] at h2;obtain ⟨⟨k,b⟩,hs,e⟩:=h2;simp only[Prod.mk.injEq] at e;obtain ⟨rfl,rfl⟩:=e;refine ⟨fun h=>?_,fun h k2 b2 hk=>?_⟩
  ·split at h
   ·cases h
   ·rw[hs,show b=r.length by omega]
  ·rw[hs] at hk
   cases hk
   split at h
   ·omega
   ·exact absurd rfl h
 ·simp only[opt,if_true,true_or] at h2 ⊢
  refine ⟨fun h=>(by cases h),fun _ k b hk=>?_⟩;rw[hk] at h2
  cases h2
structure Qg (o:Option Addr)(c:Nat)(l:List Nat)(p b:Nat)(lo:Bool)(v:Value)(zs:List AA)(w W:World):Prop where
 rd:Pk.ZR o c l p b lo W
 le:b≤l.length
 gL:Below w.heap.size w W
 own:fK 31 1 LP W (p+1) v zs
 each:∀z∈zs,pN z W
section
variable {o:Option Addr} {c:Nat} {l:List Nat} {p b b2:Nat} {lo lo2:Bool} {v v':Value} {zs:List AA} {w W X:World}
theorem Qg.step (hp:w.heap.size≤p)(i:Qg o c l p b lo v zs w W)(hx:W.grownBy X (some p))(hr:Pk.ZR o c l p b2 lo2 X)(hl:b2≤l.length):Qg o c l p b2 lo2 v zs w X :=
 ⟨hr,hl,gZ (aB _) i.gL hx (fun k e=>by cases e;omega),i.own.grown hx (fun k hk e=>by cases hk;have:=i.own.blk _ e;omega),
  fun x hm=>(i.each x hm).rows (Rows.iL hx (fun k e=>by cases e;exact ⟨_,i.rd.row⟩) (by decide))⟩
theorem Qg.up (i:Qg o c l p b lo v zs w W)(h:Below W.heap.size W X):Qg o c l p b lo v zs w X :=
 ⟨i.rd.below h,i.le,dN i.gL h,i.own.below h,fun x hm=>(i.each x hm).rows (Rows.of_below h)⟩
theorem Qg.app {x:AA}(hp:w.heap.size≤p)(iE:∀b off,o=some ⟨b,off,none⟩→0<l.length→b<p)(i:Qg o c l p b lo v zs w W)(ho:fK 31 1 LP X (p+1) v' (zs++[x]))(hx:W.grownBy X v.ownBlock)(hf:pN x W):Qg o c l p b lo v' (zs++[x]) w X:=by
 have yK:Below (p+1) W X:=(aJ _ _).grown hx (by have:=i.rd.lt;omega) (fun k hk=>i.own.blk k hk);have vN:Rows 5 W X:=Rows.iL hx (fun k e=>by obtain ⟨cc,hc⟩:=i.own.row k e;exact ⟨cc,hc⟩) (by decide);refine ⟨uM i.rd (Nat.lt_succ_self _) (fun b off e h=>Nat.lt_succ_of_lt (iE b off e h)) yK,i.le,i.gL.grown hx i.gL.size (fun k hk=>by have:=i.own.blk k hk;omega),ho,fun z hz=>?_⟩
 rcases bS.1 hz with hz|hz
 ·exact (i.each z hz).rows vN
 ·simp at hz
  subst hz;exact hf.rows vN
end
theorem UZ (l:List Nat)(o:Option Addr)(c:Nat)(w:World)(hl:By l)(hlen:l.length≤900000)(hc:l.length≤c)(hc2:c≤9223372036854775807)(hb:Bs w o l) :
  Calls prog 25 #[.slice o l.length c] w (rS l w):=by
 have HO:=aA (CL fQ xG rfl l o c w hl hlen hc hc2 hb);rw[show Pk.fR fQ=⟨#[109,117,108,102]⟩ from rfl] at HO;have yA:=aA (show ∀r,behind fQ l=some r→By r∧r.length≤900000 from fun r hr=>by
  refine ⟨vC hl hr,?_⟩;have:=pZ hr;have:=congrArg List.length this;unfold iK at this;simp only[aI] at this;omega)
 have qO:Hid (∀ec X,splitK l=(none,ec)→Below w.heap.size w X→rS l w (.returned (.tuple #[.slice none 0 0,.int .i64 ec])) X):=aA (fun ec X he hb=>by
  unfold rS;rw[he];exact ⟨⟨_,[],rfl,fK.nil _ _ _ _ _,fun z hz=>by simp at hz,rfl⟩,hb⟩)
 have xV:Hid (∀v fs X,splitK l=(some (fs.map eQ),0)→fK 28 19 fP X w.heap.size v fs→(∀z∈fs,fF w.heap.size z X)→Below w.heap.size w X→rS l w (.returned (.tuple #[v,.int .i64 0])) X):=aA (fun v fs X he ho hf hb=>by
  unfold rS;rw[he];exact ⟨⟨_,fs,rfl,ho,hf,rfl⟩,hb⟩)
 clear hl hlen hc hc2 hb;replace HO:=aA (HO.out.mono fun e w' h=>uO.useF h)
 cases pW:behind fQ l with
 | none =>
  have HE:Hid (splitK l=(none,kK fQ l)):=aA (by unfold splitK;rw[pW]);have hnz:=Ca pW;simp only[pW] at HO;generalize kK fQ l=ec at HO hnz HE;clear pW xV yA;have HR:=aA (qO.out ec · HE.out);generalize l.length=n at *;go_enter func25,ntmps25;go_wp2_with fail;refine HO.out.mono ?_;rintro e w1 ⟨hb1,rfl⟩;have HB:=aA hb1;clear hb1 HO;go_wp2_with fail;go_ret2;exact HR.out _ HB.out
 | some r =>
  have hbr:=yA.out r pW;simp only[pW] at HO;have HKB:=aA hbr;have JD:=aA pW;clear hbr yA pW;go_enter func25,ntmps25;go_wp2_with fail;refine HO.out.mono ?_;rintro e w1 ⟨hb1,m,p,o1,c1,hmr,jH,rfl,zT,hk,hmc,hno,hsp,hp,iE⟩;have yT:=aA (mY 100 (by omega) o1 c1 m p 4 false w1 hk zT);have jK:=aA hb1;have OI:=aA hmr;have CG:=aA jH;have HK:=aA hk;have HCQ:=aA (show m.length≤c1∧(o1=none→c1=0) from ⟨hmc,hno⟩);have HSP:=aA hsp;have HP:=aA hp;have jA:=aA iE;clear hb1 hmr jH zT hk hmc hno hsp hp iE HO;go_wp2_with fail;refine yT.out.mono ?_;rintro e w2 h2;obtain ⟨hg2,nz,a1,lo1,rfl,hnz,rH,hl2,hr2⟩:=mB.use h2;obtain ⟨n,rfl⟩:=Int.eq_ofNat_of_zero_le hnz.1;have n1:(n:Int)≤100:=hnz.2;have n0:(0:Int)≤(n:Int):=by omega
  have HJ0:Hid (Qg o1 c1 m p a1 lo1 (.slice none ([]:List AA).length 0) [] w w2):=aA ⟨rH,hl2,gZ (aB _) jK.out hg2 (fun k e=>by cases e;have:=HP.out;omega),fK.nil _ _ _ _ _,fun z hz=>by simp at hz⟩;have iP:=aA hr2;clear h2 hg2 hnz rH hl2 hr2 yT jK;go_wp2_with fail;go_loopg[7,8] n (fun t st si wx=>∃ (zs:List AA) (ov:Option Addr) (cv b:Nat) (lo:Bool),t=n-zs.length∧si=.int .i64 (zs.length:Int)∧st=.slice ov zs.length cv∧zs.length≤n∧Qg o1 c1 m p b lo (.slice ov zs.length cv) zs w wx∧eP lo1 (fE gO zs.length) m a1=opt lo (zs.map AA.l,b))
  case atStart=>exact ⟨[],none,0,a1,lo1,rfl,rfl,rfl,by simp,HJ0.out,nI _ _ _ _⟩
  case round =>
   obtain ⟨zs,ov,cv,b,lo,rfl,rfl,rfl,hk,hj,hrun⟩:=hrel;obtain ⟨w6,kA⟩:∃X,X=wr:=⟨_,rfl⟩;subst kA;have HJ:=aA hj;have Rb:=aA hrun;obtain ⟨_,_,e1,jk,tY⟩:=hj.own.form (fun z hz=>rfl)
   cases e1;have Nt:=jk.1;have HLI:=aA tY;clear hj hrun HJ0 jk tY;have k0:(0:Int)≤(zs.length:Int):=by omega
   by_cases pK:zs.length<n
   ·have t2:(zs.length:Int)<(n:Int):=by omega
    have HVL:=aA (show zs.length≤1000 by omega);have HOC:=aA (Tk o1 c1 m p b lo w6 (iH HK.out HJ.out.le) HCQ.out HSP.out HJ.out.rd);obtain ⟨nz,hnz⟩:∃q,zs.length=q:=⟨_,rfl⟩;have HNZ:=aA hnz;clear hnz HLI;go_wp2_with fail;refine HOC.out.mono ?_;rintro e x7 h3;obtain ⟨hg,x,b7,lo7,rfl,Fe,hpx,hlx,hrx⟩:=mB.use h3;have jx:=HJ.out.step HP.out hg hpx hlx;obtain ⟨V5,xO⟩:∃V,x7.alloc (.cells (LP x).toArray 31)=V:=⟨_,rfl⟩;have b5:Below x7.heap.size x7 V5:=by rw[←xO];exact (aJ _ _).alloc (aB _) _
    have sX:=aA (jx.up b5);have mG:=aA (show V5.heap[x7.heap.size]?=some (.cells (LP x).toArray 31 (0,0)) by rw[←xO];exact aG _ _);have HF5:=aA (show pN x V5 from Fe.rows (Rows.of_below b5));have GC:Hid (p+1≤V5.heap.size):=aA (by have:=sX.out.rd.lt;omega);have HOR:=aA hrx;have UG:=aA xO;clear h3 hg Fe hpx hlx hrx jx b5 xO HJ HOC;go_wp2_with (first|(rw[UG.out])|(with_reducible refine dQ (some 34) rfl ?_;refine aA ?_;refine FN MU (by omega) rfl (.tmp 33) 108 rfl underlying108 (.slice x.o x.l.length x.c) rfl (LP x).toArray rfl rfl ?_)|(at_builtin;refine pD MU rfl (.tmp 32) (.tmp 34) 108 rfl underlying108 (p+1) (.slice ov zs.length cv) zs [x] (by rw[HNZ.out];rfl) GC.out sX.out.own (some ⟨x7.heap.size,0,none⟩) 1 rfl (fun h=>by cases h) (kE mG.out) (fun z hz=>by simp at hz;subst hz;rfl) (fun z _=>Jp z) (by have:=HVL.out;simp;omega) ?_))
    intro v4 X5 ND SS;refine aA ?_;have GN:=sX.out.app HP.out jA.out ND SS HF5.out;obtain ⟨ow,cw,tB,_,_⟩:=ND.form (fun z hz=>rfl);subst tB;have OL:=aA GN;have Cq:=aA (iD Rb.out HOR.out);obtain ⟨ml,jH⟩:∃ml,(zs++[x]).length=ml:=⟨_,rfl⟩;have Yw:=aA jH;rw[jH] at OL ⊢;clear ND SS GN jH sX mG UG;go_wp2_with fail;go_roundg (n-(zs.length+1))
    case measure=>omega
    case rel=>exact ⟨zs++[x],ow,cw,_,_,by simp,by rw[aI];go_num,by rw[Yw.out],by simp;omega,by rw[Yw.out];exact OL.out,by rw[aI,List.map_append];exact Cq.out⟩
   ·have t2:¬ (zs.length:Int)<(n:Int):=by omega
    have zR:=uS iP.out (by rw[show ((n:Int)).toNat=zs.length by omega];exact Rb.out);have hend:=Gg OI.out CG.out zR HJ.out.le;have pG:=aA (Pk.PH o1 c1 m p b lo w6 (iH HK.out HJ.out.le) HJ.out.rd);have pF:=aA hend;have Ti:=aA HJ.out.gL;have lK:=aA HJ.out.each;obtain rfl:zs.length=n:=by omega
    obtain ⟨n,hn⟩:∃n,zs.length=n:=⟨_,rfl⟩;have HN:=aA hn;rw[hn] at Nt k0 n0 n1 t2 ⊢;clear zR hend hn HJ Rb iP pK hk;generalize Ff:Pk.pB lo m.length b=ec at pG pF;clear Ff;by_cases hz:ec=0
    ·subst hz
     have MZ:=pF.out.1 rfl;have Qx:=aA (JQ JD.out MZ);have hgf:=(Ol.get r 0 _ _ HKB.out.1 (cK _) MZ).1;have HGF:Hid (∀x∈zs,By x.l∧x.l.length≤65536):=aA (fun x hx=>hgf.2 x.l (List.mem_map.2 ⟨x,hx,rfl⟩));obtain ⟨ts,Ry⟩:∃ts,zs.map AA.l=ts:=⟨_,rfl⟩;rw[Ry] at Qx;have Yl:=aA Ry;clear MZ pF JD hgf Ry;go_wp2_with fail;refine pG.out.mono ?_;rintro e w5 ⟨rfl,jT⟩;have AH:=aA (dN Ti.out jT);have HLI5:Hid (iX 31 1 LP w5 (p+1) ov zs):=aA ⟨fun k z hk=>by
      obtain ⟨g,cur,e1,e2,e3,e4,e5⟩:=HLI.out.at_ k z hk;exact ⟨g,cur,e1,e2,dL jT e3,e4,iC jT e5⟩⟩
     have HEL5:Hid (∀z∈zs,pN z w5):=aA (fun z hz=>(lK.out z hz).rows (Rows.of_below jT));clear jT pG HLI lK Ti;go_wp2_with fail;go_loopg[11,12] n (fun g so sj wx=>∃ (k:Nat) (v:Value) (fs:List eF),g=n-k∧sj=.int .i64 (k:Int)∧k≤n∧so=v∧fs.length=k∧iB ts=((iB (ts.drop k)).1.map (fs.map eQ ++ ·),(iB (ts.drop k)).2)∧AB zs w5 v fs wx)
     case atStart=>exact ⟨0,_,[],rfl,rfl,by omega,rfl,rfl,by simp,⟨aJ _ _,fK.nil _ _ _ _ _,fun z hz=>by simp at hz⟩⟩
     case round =>
      obtain ⟨k,v,fs,rfl,rfl,hk,rfl,OT,yM,hi⟩:=hrel;have Hq:=aA OT;have Hs:=aA yM;have HI:=aA hi;obtain ⟨of,cf,rfl,_,_⟩:=hi.own.form (fun z hz=>by simp[fP,(hi.each z hz).wf.len]);clear OT yM hi;have k0:(0:Int)≤(k:Int):=by omega
      by_cases pK:k<n
      ·have t2:(k:Int)<(n:Int):=by omega
       obtain ⟨x,hx⟩:∃x,zs[k]?=some x:=⟨_,aF (by rw[HN.out];exact pK)⟩;obtain ⟨gt,cur,zU,_,hrow,_,SC⟩:=HLI5.out.at_ k x hx;have c0:wr.cell? ⟨gt,k,none⟩=some (.slice x.o x.l.length x.c):=by
        have h1:w5.cell? ⟨gt,0+k*1+0,none⟩=some (.slice x.o x.l.length x.c):=SC 0 _ rfl;have h2:=dE HI.out.gL h1
        simpa using h2
       have OS:=aX hx;have vR:pN x wr:=(HEL5.out x OS).rows (Rows.of_below HI.out.gL);obtain ⟨Nv,Nr,hcx2⟩:=vR.bs;obtain ⟨Nu,hlx⟩:=HGF.out x OS;have Yu:=aA (PK x.l x.o x.c wr Nu (by omega) Nr hcx2 Nv);unfold KZ at Yu;have HXT:Hid (ts[k]?=some x.l):=aA (by rw[←Yl.out,bZ,hx];rfl);obtain ⟨xl,Rv⟩:∃m,x.l.length=m:=⟨_,rfl⟩;rw[Rv] at Yu c0 Nr;subst zU;clear hx hrow SC OS vR Nv Nu hlx Rv;go_wp2_with fail;refine Yu.out.mono ?_;rintro e w6 ⟨⟨t,rfl,BJ,hkey⟩,KL⟩;obtain ⟨V1,hV1⟩:∃V,w6.alloc (.cells #[.int .i64 0,.int .i64 0,.int .i64 0,.int .i64 0,.int .i64 0,.int .i64 0,.int .i64 0,.int .i64 0,.int .i64 0,.int .i64 0,.int .i64 0,.int .i64 0,.int .i64 0,.int .i64 0,.int .i64 0,.int .i64 0,.int .i64 0,.int .i64 0,.slice none 0 0] 28)=V:=⟨_,rfl⟩;obtain ⟨V2,hV2⟩:∃V,V1.setRow w6.heap.size (eU t)=V:=⟨_,rfl⟩;have r1:dI 28 w6.heap.size #[.int .i64 0,.int .i64 0,.int .i64 0,.int .i64 0,.int .i64 0,.int .i64 0,.int .i64 0,.int .i64 0,.int .i64 0,.int .i64 0,.int .i64 0,.int .i64 0,.int .i64 0,.int .i64 0,.int .i64 0,.int .i64 0,.int .i64 0,.int .i64 0,.slice none 0 0] V1:=by rw[←hV1];exact dI.new _ _ _
       have r2:V2.heap[w6.heap.size]?=some (.cells (eU t) 28 (0,0)):=by rw[←hV2];exact setRow_heap _ _ _ _ _ _ r1
       have b2:Below w6.heap.size w6 V2:=by rw[←hV2,←hV1];exact Below.row ((aJ _ _).alloc (aB _) _) (aB _) _
       have Hj:=aA r1;have ni:Hid (V2.rangeAt w6.heap.size 0 (fP t)):=aA (fun j u hj=>by rw[bE];exact (show eZ w6.heap.size t V2 from r2).at.trans hj);have YN:=aA ((HI.out.up KL).up b2);have qw:Hid (fF w5.heap.size t V2):=aA ((BJ.rows (Rows.of_below b2) (Rows.of_below b2) (Rows.of_below b2)).low HI.out.gL.size);have hi:=aA (oU BJ.wf);have Nj:=aA (JR t BJ.wf (.slice t.oo t.os.length t.oc));have Rz:=aA (show 19=(eU t).size from (sH BJ.wf (.slice t.oo t.os.length t.oc)).symm);have Sd:=aA (show (eU t).all (·.oneCell')=true from nA t (.slice t.oo t.os.length t.oc) rfl);have qR:Hid ((fP t).length=19):=aA (lR BJ.wf);have vF:=aA hV1;have oM:=aA hV2;have Rm:=aA hkey;clear r1 r2 b2 BJ hkey KL hV1 hV2 Yu HI
       cases hd:oI x.l with
       | mk kk ec =>
        rw[hd] at Rm
        cases kk with
        | none =>
         have Ff:=Br hd;have Qy:=aA (Qx.out.trans (DD HXT.out hd Hs.out));have HR:=aA (qO.out ec V2 Qy.out (dN AH.out YN.out.gL));clear hd Rm Qy YN qw;dsimp only;go_wp2_with (first|(rw[vF.out])|(rw[oM.out])|(refine dG rfl 28 (.tmp 13) (.tmp 51) rfl w6.heap.size _ _ (eU t) rfl rfl Hj.out Nj.out Rz.out Sd.out ?_))
         go_ret2;exact HR.out
        | some y =>
         have Ff:ec=0:=by
          unfold oI at hd
          split at hd
          ·cases hd
          ·split at hd
           ·cases hd
           ·split at hd
            ·split at hd
             ·cases hd;rfl
             ·cases hd
            ·cases hd
         subst Ff;have hky:eQ t=y:=Rm.out;have Zc:=aA (DC HXT.out hd Hs.out);have HKY:=aA hky;clear hd Rm hky Hs;obtain ⟨V3,oG⟩:∃V,V2.alloc (.cells (fP t).toArray 28)=V:=⟨_,rfl⟩;have hb3:Below V2.heap.size V2 V3:=by rw[←oG];exact (aJ _ _).alloc (aB _) _
         have mG:=aA (show V3.heap[V2.heap.size]?=some (.cells (fP t).toArray 28 (0,0)) by rw[←oG];exact aG _ _);have Ct:=aA (YN.out.up hb3);have qx:Hid (fF w5.heap.size t V3):=aA (qw.out.rows (Rows.of_below hb3) (Rows.of_below hb3) (Rows.of_below hb3));have GV:=aA oG;clear oG hb3;dsimp only;go_wp2_with (first|(rw[vF.out])|(rw[oM.out])|(refine dG rfl 28 (.tmp 13) (.tmp 51) rfl w6.heap.size _ _ (eU t) rfl rfl Hj.out Nj.out Rz.out Sd.out ?_)|(rw[GV.out])|(with_reducible refine dQ (some 57) rfl ?_;refine aA ?_;refine wpList_load_mid rfl 28 (.tmp 13) rfl w6.heap.size 0 rfl (fP t) _ ni.out aW rfl hi.out ?_)|(with_reducible refine dQ (some 58) rfl ?_;refine aA ?_;refine jC yG (by omega) rfl (.tmp 57) 52 rfl cW (fP t).toArray rfl (by rw[aL];exact qR.out) ?_)|(at_builtin;refine pD yG rfl (.tmp 56) (.tmp 58) 52 rfl cW w5.heap.size (.slice of fs.length cf) fs [t] rfl Ct.out.gL.size Ct.out.own (some ⟨V2.heap.size,0,none⟩) 1 rfl (fun h=>by cases h) (kE mG.out) (fun z hz=>by simp at hz;subst hz;exact qR.out) (fun z _=>LW z) (by have:=Hq.out;simp;omega) ?_))
         intro v' w7 Mr jf;refine aA ?_;have Ho:Hid (AB zs w5 v' (fs++[t]) w7):=aA (Ct.out.app qx.out Mr jf);obtain ⟨ow,cw,tB,_,_⟩:=Mr.form (fun z hz=>by simp[fP,(Ho.out.each z hz).wf.len]);subst tB;clear Mr jf Ct qx;obtain ⟨ml,jH⟩:∃ml,(fs++[t]).length=ml:=⟨_,rfl⟩;have CG:=aA jH;rw[jH] at Ho ⊢;clear jH;go_wp2_with fail;go_roundg (n-(k+1))
         case measure=>omega
         case rel=>exact ⟨k+1,_,fs++[t],rfl,by go_num,by omega,rfl,by simp[Hq.out],by rw[Zc.out,List.map_append];simp[HKY.out],Ho.out⟩
      ·obtain rfl:k=n:=by omega
       have t2:¬ (k:Int)<(k:Int):=by omega
       have hsk:splitK l=(some (fs.map eQ),0):=Qx.out.trans (JZ (by
        have h1:ts.length=k:=by rw[←Yl.out,aT,HN.out]
        rw[h1];exact Hs.out))
       have HR:=aA (xV.out _ fs wr hsk (HI.out.own.base AH.out.size) (fun z hz=>(HI.out.each z hz).low AH.out.size) (dN AH.out HI.out.gL));clear hsk HI;go_wp2_with fail;go_ret2;exact HR.out
    ·have Qx:=aA (PY JD.out (pF.out.2 hz))
     clear pF JD;go_wp2_with fail;refine pG.out.mono ?_;rintro e w5 ⟨rfl,jT⟩;have HR:=aA (qO.out 70 w5 Qx.out (dN Ti.out jT));clear jT pG;go_wp2_with fail;go_ret2;exact HR.out
end Fx
namespace Fx
open Go Go.RowKit
structure Apart (B E:Nat)(V W:World):Prop where
 os:W.os=V.os
 rest:Below 0 V W
 size:V.heap.size≤W.heap.size
 block:∀b,b<V.heap.size→¬ (B≤b∧b<E)→W.heap[b]?=V.heap[b]?
theorem Apart.refl (B E:Nat)(V:World):Apart B E V V:=⟨rfl,aJ _ _,aB _,fun _ _ _=>rfl⟩
theorem Apart.up {B E:Nat}{V W X:World}(h:Apart B E V W)(hb:Below W.heap.size W X):Apart B E V X :=
 ⟨hb.os.trans h.os,wM h.rest (pC (cK _) hb),bH h.size hb.size,fun b hl hn=>by rw[hb.block b (aP hl h.size)];exact h.block b hl hn⟩
theorem Apart.put {B E:Nat}{V W:World}(h:Apart B E V W){g j:Nat}(hg:B≤g∧g<E)(v:Value):Apart B E V (W.setCell ⟨g,j,none⟩ v) :=
 ⟨h.os,h.rest.setCell (p:=⟨g,j,none⟩) (cK _) _,by simpa using h.size,fun b hl hn=>by
  rw[aK _ _ _ _ (by show b≠g;intro e;subst e;exact hn hg)];exact h.block b hl hn⟩
structure lq (B E:Nat)(c:eF)(V W:World):Prop where
 apart:Apart B E V W
 le:E≤V.heap.size
 box:W.heap[V.heap.size]?=some (.cells (eU c) 28 (0,0))
 id:∀k x,c.os[k]?=some x→∃g off,c.oo=some ⟨g,off,none⟩∧(B≤g∧g<E)∧mO .i64 W g (off+k*19)∧W.cell? ⟨g,off+k*19+17,none⟩=some (.slice x.vo x.vs.length x.vc)∧W.cell? ⟨g,off+k*19+18,none⟩=some (.slice x.tq x.ts.length x.tc)
 vs:∀x∈c.os,∀j,j<x.vs.length→∃g off,x.vo=some ⟨g,off,none⟩∧(B≤g∧g<E)∧mO .i64 W g (off+j*3)
 ts:∀x∈c.os,∀j,j<x.ts.length→∃g off,x.tq=some ⟨g,off,none⟩∧(B≤g∧g<E)∧mO .i64 W g (off+j*4)
theorem lq.up {B E:Nat}{c:eF}{V W X:World}(hb:Below W.heap.size W X)(i:lq B E c V W):lq B E c V X:=by
 refine ⟨i.apart.up hb,i.le,dL hb i.box,fun k x hk=>?_,fun x hx j hj=>?_,fun x hx j hj=>?_⟩
 ·obtain ⟨g,off,e,h1,h3,h4,h5⟩:=i.id k x hk
  exact ⟨g,off,e,h1,h3.below hb,dE hb h4,dE hb h5⟩
 ·obtain ⟨g,off,e,h1,h3⟩:=i.vs x hx j hj
  exact ⟨g,off,e,h1,h3.below hb⟩
 ·obtain ⟨g,off,e,h1,h3⟩:=i.ts x hx j hj
  exact ⟨g,off,e,h1,h3.below hb⟩
theorem lq.put {B E:Nat}{c:eF}{V W:World}(i:lq B E c V W){g j:Nat}(hg:B≤g∧g<E)(h:mO .i64 W g j)(z:Int):lq B E c V (W.setCell ⟨g,j,none⟩ (.int .i64 z)):=by
 refine ⟨i.apart.put hg _,i.le,?_,fun k x hk=>?_,fun x hx j hj=>?_,fun x hx j hj=>?_⟩
 ·rw[aK _ _ _ _ (by show V.heap.size≠g;have:=i.le;omega)]
  exact i.box
 ·obtain ⟨g,off,e,h1,h3,h4,h5⟩:=i.id k x hk
  exact ⟨g,off,e,h1,h3.put h z,oK h4 h z,oK h5 h z⟩
 ·obtain ⟨g,off,e,h1,h3⟩:=i.vs x hx j hj
  exact ⟨g,off,e,h1,h3.put h z⟩
 ·obtain ⟨g,off,e,h1,h3⟩:=i.ts x hx j hj
  exact ⟨g,off,e,h1,h3.put h z⟩
theorem rJ {t:TypeId}{W0 W:World}{g:Nat}{cur:Array Value}(h:W0.heap[g]?=some (.cells cur t (0,0))):g<W0.heap.size:=(aC.1 h).1
theorem lq.new {B:Nat}{c:eF}{W0 V W:World}(s:fF B c W0)(h1:Below W0.heap.size W0 V)(hV:V.alloc (.cells (eU c) 28)=W):lq B W0.heap.size c V W:=by
 have hb:Below V.heap.size V W:=by rw[←hV];exact (aJ _ _).alloc (aB _) _
 have hk:Below W0.heap.size W0 W:=dN h1 hb;refine ⟨⟨hb.os,pC (cK _) hb,hb.size,fun b hl _=>hb.block b hl⟩,h1.size,by rw[←hV];exact aG _ _,fun k x hx=>?_,fun x hx j hj=>?_,fun x hx j hj=>?_⟩
 ·obtain ⟨g,cur,e,h1,h2,_,h3⟩:=s.objs.at_ k x hx
  have hw:=(s.each x (aX hx)).wf;refine ⟨g,0,e,⟨h1,rJ (W:=W) h2⟩,(oD h2 (z:=x.id) ?_).below hk,dE hk ?_,dE hk ?_⟩
  ·exact h3 0 _ (uW x)
  ·exact h3 17 _ (nB hw)
  ·exact h3 18 _ (nC hw)
 ·have hw:=s.each x hx
  obtain ⟨v,hv⟩:∃v,x.vs[j]?=some v:=⟨_,aF hj⟩;obtain ⟨g,cur,e,h1,h2,_,h3⟩:=hw.v.at_ j v hv;have ay:=(hw.vw v (aX hv)).len;obtain ⟨z,hz⟩:∃z,v[0]?=some z:=⟨_,aF (by omega)⟩;refine ⟨g,0,e,⟨h1,rJ (W:=W) h2⟩,(oD h2 (z:=z) ?_).below hk⟩;exact h3 0 _ (by rw[bZ,hz];rfl)
 ·have hw:=s.each x hx
  obtain ⟨v,hv⟩:∃v,x.ts[j]?=some v:=⟨_,aF hj⟩;obtain ⟨g,cur,e,h1,h2,_,h3⟩:=hw.t.at_ j v hv;refine ⟨g,0,e,⟨h1,rJ (W:=W) h2⟩,(oD h2 (z:=v.a) ?_).below hk⟩;exact h3 0 _ rfl
theorem iX.apart {α:Type}{t:TypeId}{n:Nat}{f:α→List Value}{B E C:Nat}{o:Option Addr}{l:List α}{V W:World}(h:iX t n f V C o l)(hC:E≤C)(a:Apart B E V W):iX t n f W C o l:=⟨fun k z hk=>by
 obtain ⟨g,cur,e,h1,h2,h3,h4⟩:=h.at_ k z hk;have hg:=a.block g (aC.1 h2).1 (by omega);refine ⟨g,cur,e,h1,by rw[hg];exact h2,h3,fun j u hj=>?_⟩;rw[cZ (w:=V) hg];exact h4 j u hj⟩
theorem fF.apart {B E C:Nat}{c:eF}{V W:World}(s:fF C c V)(hC:E≤C)(a:Apart B E V W):fF C c W :=
 ⟨s.wf,s.objs.apart hC a,fun x hx=>⟨(s.each x hx).wf,(s.each x hx).v.apart hC a,(s.each x hx).t.apart hC a,(s.each x hx).vw,(s.each x hx).tw⟩⟩
def mF (W:World)(g j:Nat):Prop:=mO .i64 W g j∧∃cur t,W.heap[g]?=some (.cells cur t (0,0))∧t≠28
theorem mF.below {W X:World}{g j:Nat}(hb:Below W.heap.size W X)(h:mF W g j):mF X g j:=by
 obtain ⟨h1,cur,t,h2,h3⟩:=h;exact ⟨h1.below hb,cur,t,dL hb h2,h3⟩
theorem mF.put {W:World}{g j g2 j2:Nat}(h:mF W g j)(h2:mF W g2 j2)(z:Int):mF (W.setCell ⟨g2,j2,none⟩ (.int .i64 z)) g j:=by
 obtain ⟨h1,cur,t,h3,h4⟩:=h;refine ⟨h1.put h2.1 z,?_⟩;by_cases e:g=g2
 ·subst e
  exact ⟨_,t,aM _ _ j2 _ _ (.int .i64 z) h3,h4⟩
 ·exact ⟨cur,t,by rw[aK _ _ _ _ e];exact h3,h4⟩
def gN (B E:Nat)(V W:World):Prop:=∀P:World→Prop,(∀X Y,P X→Below X.heap.size X Y→P Y)→(∀X g j z,P X→B≤g→g<E→mF X g j→P (X.setCell ⟨g,j,none⟩ (.int .i64 z)))→P V→P W
theorem gN.refl (B E:Nat)(V:World):gN B E V V:=fun _ _ _ h=>h
theorem gN.up {B E:Nat}{V W X:World}(h:gN B E V W)(hb:Below W.heap.size W X):gN B E V X:=fun P h1 h2 h3=>h1 _ _ (h P h1 h2 h3) hb
theorem gN.put {B E:Nat}{V W:World}(h:gN B E V W){g j:Nat}(hg:B≤g∧g<E)(hr:mF W g j)(z:Int):gN B E V (W.setCell ⟨g,j,none⟩ (.int .i64 z)):=fun P h1 h2 h3=>h2 _ _ _ _ (h P h1 h2 h3) hg.1 hg.2 hr
theorem gN.trans {B E:Nat}{V W X:World}(h:gN B E V W)(k:gN B E W X):gN B E V X:=fun P h1 h2 h3=>k P h1 h2 (h P h1 h2 h3)
theorem gN.apart {B E:Nat}{V W:World}(h:gN B E V W):Apart B E V W:=h (Apart B E V) (fun _ _ i hb=>i.up hb) (fun _ _ _ z i h1 h2 _=>i.put ⟨h1,h2⟩ _) (Apart.refl _ _ _)
theorem gN.row {B E:Nat}{V W:World}(h:gN B E V W){g:Nat}{cur:Array Value}(hr:V.heap[g]?=some (.cells cur 28 (0,0))):W.heap[g]?=some (.cells cur 28 (0,0)) :=
 h (fun X=>X.heap[g]?=some (.cells cur 28 (0,0))) (fun _ _ i hb=>dL hb i) (fun X g2 j z i _ _ hq=>by
  obtain ⟨_,c2,t,h2,h3⟩:=hq;show (X.setCell ⟨g2,j,none⟩ (.int .i64 z)).heap[g]?=_;rw[aK _ _ _ _ (fun e=>by
   subst e;rw[i] at h2
   cases h2;exact h3 rfl)]
  exact i) hr
structure YE (B E:Nat)(c:eF)(W:World):Prop where
 id:∀k x,c.os[k]?=some x→∃g off,c.oo=some ⟨g,off,none⟩∧(B≤g∧g<E)∧mF W g (off+k*19)∧W.cell? ⟨g,off+k*19+17,none⟩=some (.slice x.vo x.vs.length x.vc)∧W.cell? ⟨g,off+k*19+18,none⟩=some (.slice x.tq x.ts.length x.tc)
 vs:∀x∈c.os,∀j,j<x.vs.length→∃g off,x.vo=some ⟨g,off,none⟩∧(B≤g∧g<E)∧mF W g (off+j*3)
 ts:∀x∈c.os,∀j,j<x.ts.length→∃g off,x.tq=some ⟨g,off,none⟩∧(B≤g∧g<E)∧mF W g (off+j*4)
theorem YE.up {B E:Nat}{c:eF}{W X:World}(hb:Below W.heap.size W X)(i:YE B E c W):YE B E c X:=by
 refine ⟨fun k x hk=>?_,fun x hx j hj=>?_,fun x hx j hj=>?_⟩
 ·obtain ⟨g,off,e,h1,h3,h4,h5⟩:=i.id k x hk
  exact ⟨g,off,e,h1,h3.below hb,dE hb h4,dE hb h5⟩
 ·obtain ⟨g,off,e,h1,h3⟩:=i.vs x hx j hj
  exact ⟨g,off,e,h1,h3.below hb⟩
 ·obtain ⟨g,off,e,h1,h3⟩:=i.ts x hx j hj
  exact ⟨g,off,e,h1,h3.below hb⟩
theorem YE.put {B E:Nat}{c:eF}{W:World}(i:YE B E c W){g j:Nat}(h:mF W g j)(z:Int):YE B E c (W.setCell ⟨g,j,none⟩ (.int .i64 z)):=by
 refine ⟨fun k x hk=>?_,fun x hx j hj=>?_,fun x hx j hj=>?_⟩
 ·obtain ⟨g,off,e,h1,h3,h4,h5⟩:=i.id k x hk
  exact ⟨g,off,e,h1,h3.put h z,oK h4 h.1 z,oK h5 h.1 z⟩
 ·obtain ⟨g,off,e,h1,h3⟩:=i.vs x hx j hj
  exact ⟨g,off,e,h1,h3.put h z⟩
 ·obtain ⟨g,off,e,h1,h3⟩:=i.ts x hx j hj
  exact ⟨g,off,e,h1,h3.put h z⟩
theorem YE.only {B E B2 E2:Nat}{c:eF}{V W:World}(i:YE B E c V)(h:gN B2 E2 V W):YE B E c W :=
 h (YE B E c) (fun _ _ i hb=>i.up hb) (fun _ _ _ z i _ _ hr=>i.put hr z) i
theorem YE.of {B:Nat}{c:eF}{W:World}(s:fF B c W):YE B W.heap.size c W:=by
 refine ⟨fun k x hx=>?_,fun x hx j hj=>?_,fun x hx j hj=>?_⟩
 ·obtain ⟨g,cur,e,h1,h2,_,h3⟩:=s.objs.at_ k x hx
  have hw:=(s.each x (aX hx)).wf;exact ⟨g,0,e,⟨h1,rJ (W:=W) h2⟩,⟨oD h2 (z:=x.id) (h3 0 _ (uW x)),cur,_,h2,by decide⟩,h3 17 _ (nB hw),h3 18 _ (nC hw)⟩
 ·have hw:=s.each x hx
  obtain ⟨v,hv⟩:∃v,x.vs[j]?=some v:=⟨_,aF hj⟩;obtain ⟨g,cur,e,h1,h2,_,h3⟩:=hw.v.at_ j v hv;have ay:=(hw.vw v (aX hv)).len;obtain ⟨z,hz⟩:∃z,v[0]?=some z:=⟨_,aF (by omega)⟩;exact ⟨g,0,e,⟨h1,rJ (W:=W) h2⟩,oD h2 (z:=z) (h3 0 _ (by rw[bZ,hz];rfl)),cur,_,h2,by decide⟩
 ·have hw:=s.each x hx
  obtain ⟨v,hv⟩:∃v,x.ts[j]?=some v:=⟨_,aF hj⟩;obtain ⟨g,cur,e,h1,h2,_,h3⟩:=hw.t.at_ j v hv;exact ⟨g,0,e,⟨h1,rJ (W:=W) h2⟩,oD h2 (z:=v.a) (h3 0 _ rfl),cur,_,h2,by decide⟩
structure Sp (B E:Nat)(c:eF)(V W:World):Prop where
 only:gN B E V W
 le:E≤V.heap.size
 box:W.heap[V.heap.size]?=some (.cells (eU c) 28 (0,0))
 sh:YE B E c W
theorem Sp.up {B E:Nat}{c:eF}{V W X:World}(hb:Below W.heap.size W X)(i:Sp B E c V W):Sp B E c V X :=
 ⟨i.only.up hb,i.le,dL hb i.box,i.sh.up hb⟩
theorem Sp.put {B E:Nat}{c:eF}{V W:World}(i:Sp B E c V W){g j:Nat}(hg:B≤g∧g<E)(h:mF W g j)(z:Int):Sp B E c V (W.setCell ⟨g,j,none⟩ (.int .i64 z)):=by
 refine ⟨i.only.put hg h _,i.le,?_,i.sh.put h z⟩;rw[aK _ _ _ _ (by show V.heap.size≠g;have:=i.le;omega)];exact i.box
def lu (B E:Nat)(w:World)(e:Ending)(w':World):Prop:=(∃v,e=.returned v)∧gN B E w w'
theorem Dz (B E:Nat)(c:eF)(w:World)(hs:iA c)(hfe:∀x∈c.os,jY x)(sx:YE B E c w)(hE:E≤w.heap.size) :
  Calls prog 20 #[.agg (eU c)] w (lu B E w):=by
 obtain ⟨V0,jR⟩:∃V,w.alloc (.cells (eU c) 28)=V:=⟨_,rfl⟩;have oJ:=aA jR;have hb0:Below w.heap.size w V0:=by rw[←jR];exact (aJ _ _).alloc (aB _) _
 have hi:Sp B E c w V0:=⟨(gN.refl _ _ _).up hb0,hE,by rw[←jR];exact aG _ _,sx.up hb0⟩;have oO:=aA hi;have HW:=aA hs;have gR:=hs.cap.1;have HFE:=aA hfe;obtain ⟨n,hn⟩:∃n,c.os.length=n:=⟨_,rfl⟩;obtain ⟨oo,zU⟩:∃o,c.oo=o:=⟨_,rfl⟩;rw[hn] at gR;have c18:V0.cell? ⟨w.heap.size,18,none⟩=some (.slice oo n c.oc):=by rw[(show eZ w.heap.size c V0 from hi.box).c18 hs,hn,zU]
 have HN:=aA hn;have Cr:=aA zU;have n0:(0:Int)≤(n:Int):=by omega
 have pH:=aA gR;clear hi hs hfe sx hE hb0 hn zU jR gR;go_enter func20,ntmps20;go_wp2_with (rw[oJ.out])
 clear c18 oJ;go_loopg[8] n (fun g s8 wx=>∃k:Nat,g=n-k∧s8=.int .i64 (k:Int)∧k≤n∧Sp B E c w wx)
 case atStart=>exact ⟨0,rfl,rfl,by omega,oO.out⟩
 case round =>
  obtain ⟨k,rfl,rfl,hk,hi⟩:=hrel;obtain ⟨w6,kA⟩:∃X,X=wr:=⟨_,rfl⟩;subst kA;have k0:(0:Int)≤(k:Int):=by omega
  have hn9:n≤9223372036854775807:=by have:=pH.out;omega
  have HI:=aA hi;clear oO;by_cases pK:k<n
  ·have t2:(k:Int)<(n:Int):=by omega
   obtain ⟨x,hx⟩:∃x,c.os[k]?=some x:=⟨_,aF (by rw[HN.out];exact pK)⟩;have HX:=aA hx;obtain ⟨g,off,e,hg,hint,kg,jw⟩:=hi.sh.id k x hx;rw[Cr.out] at e;subst e;have c18:w6.cell? ⟨w.heap.size,18,none⟩=some (.slice (some ⟨g,off,none⟩) n c.oc):=by rw[(show eZ w.heap.size c w6 from hi.box).c18 HW.out,HN.out,Cr.out]
   obtain ⟨m,hm⟩:∃m,x.vs.length=m:=⟨_,rfl⟩;obtain ⟨q,hq⟩:∃q,x.ts.length=q:=⟨_,rfl⟩;have HM:=aA hm;have HQ:=aA hq;rw[hm] at kg;rw[hq] at jw;have hwx:=HFE.out x (aX hx);have m9:m≤9223372036854775807:=by have:=hwx.LJ.1;omega
   have q9:q≤9223372036854775807:=by have:=hwx.ID.1;omega
   clear hwx;have m0:(0:Int)≤(m:Int):=by omega
   have q0:(0:Int)≤(q:Int):=by omega
   clear hi hx hg hint hm hq;go_wp2_with fail;clear c18 kg jw;go_loopg[18] m (fun gg s1 wx=>∃r:Nat,gg=m-r∧s1=.int .i64 (r:Int)∧r≤m∧Sp B E c w wx)
   case atStart=>exact ⟨0,rfl,rfl,by omega,HI.out⟩
   case round =>
    obtain ⟨r,rfl,rfl,hr,hi⟩:=hrel;obtain ⟨w7,kP⟩:∃X,X=wr:=⟨_,rfl⟩;subst kP;have r0:(0:Int)≤(r:Int):=by omega
    have jP:=aA hi;obtain ⟨g1,off1,e1,hg1,SQ,kg,jw⟩:=hi.sh.id k x HX.out;have e3:=Cr.out.symm.trans e1
    cases e3;have c18:w7.cell? ⟨w.heap.size,18,none⟩=some (.slice (some ⟨g,off,none⟩) n c.oc):=by rw[(show eZ w.heap.size c w7 from hi.box).c18 HW.out,HN.out,Cr.out]
    rw[HM.out] at kg;rw[HQ.out] at jw;by_cases SE:r<m
    ·have t3:(r:Int)<(m:Int):=by omega
     obtain ⟨g2,off2,e2,hg2,hint⟩:=hi.sh.vs x (aX HX.out) r (by rw[HM.out];exact SE);have qp:=aA hint;have OM:=aA hg2;obtain ⟨⟨⟨⟨z2,hz2⟩,hl2⟩,hf2⟩,_⟩:=hint;rw[e2] at kg;clear e2 hi hg1 SQ hg2 e1;go_wp2_with fail;have HP2:=aA (jP.out.put OM.out qp.out 77);go_roundg (m-(r+1))
     case measure=>omega
     case rel=>exact ⟨r+1,rfl,by go_num,by omega,HP2.out⟩
    ·have t3:¬ (r:Int)<(m:Int):=by omega
     clear hi hg1 SQ e1;go_wp2_with fail;clear c18 kg jw;go_loopg[38] q (fun gg s1 wx=>∃u:Nat,gg=q-u∧s1=.int .i64 (u:Int)∧u≤q∧Sp B E c w wx)
     case atStart=>exact ⟨0,rfl,rfl,by omega,jP.out⟩
     case round =>
      obtain ⟨u,rfl,rfl,hr,hi⟩:=hrel;obtain ⟨w8,kH⟩:∃X,X=wr:=⟨_,rfl⟩;subst kH;have u0:(0:Int)≤(u:Int):=by omega
      have qB:=aA hi;obtain ⟨g1,off1,e1,hg1,SQ,kg,jw⟩:=hi.sh.id k x HX.out;have e3:=Cr.out.symm.trans e1
      cases e3;have c18:w8.cell? ⟨w.heap.size,18,none⟩=some (.slice (some ⟨g,off,none⟩) n c.oc):=by rw[(show eZ w.heap.size c w8 from hi.box).c18 HW.out,HN.out,Cr.out]
      rw[HM.out] at kg;rw[HQ.out] at jw;by_cases Rx:u<q
      ·have t4:(u:Int)<(q:Int):=by omega
       obtain ⟨g2,off2,e2,hg2,hint⟩:=hi.sh.ts x (aX HX.out) u (by rw[HQ.out];exact Rx);have HIN3:=aA hint;have HG3:=aA hg2;obtain ⟨⟨⟨⟨z2,hz2⟩,hl2⟩,hf2⟩,_⟩:=hint;rw[e2] at jw;clear e2 hi hg1 SQ hg2 e1;go_wp2_with fail;have HP3:=aA (qB.out.put HG3.out HIN3.out 78);go_roundg (q-(u+1))
       case measure=>omega
       case rel=>exact ⟨u+1,rfl,by go_num,by omega,HP3.out⟩
      ·have t4:¬ (u:Int)<(q:Int):=by omega
       clear hi hg1 SQ e1;obtain ⟨g3,WO,e3,hg3,jd,_,_⟩:=qB.out.sh.id k x HX.out;have e4:=Cr.out.symm.trans e3
       cases e4;have HP4:=aA (qB.out.put hg3 jd 79);have c18:w8.cell? ⟨w.heap.size,18,none⟩=some (.slice (some ⟨g,off,none⟩) n c.oc):=by rw[(show eZ w.heap.size c w8 from qB.out.box).c18 HW.out,HN.out,Cr.out]
       obtain ⟨⟨⟨⟨z3,hz3⟩,BI⟩,hf3⟩,_⟩:=jd;clear e3 hg3 BI;go_wp2_with fail;go_roundg (n-(k+1))
       case measure=>omega
       case rel=>exact ⟨k+1,rfl,by go_num,by omega,HP4.out⟩
  ·have t2:¬ (k:Int)<(n:Int):=by omega
   go_wp2_with fail;exact aO (results_none rfl _ _ _) rfl ⟨⟨_,rfl⟩,HI.out.only⟩
end Fx
namespace Fx
open Go Go.RowKit Go.Lib
open Pk (Bs By)
theorem Fq {s:eF}(h:kI s=false):s.os.length≤1000∧∀x∈s.os,x.vs.length≤1000∧x.ts.length≤1000:=by
 unfold kI at h;rw[Bool.or_eq_false_iff] at h;have h1:=of_decide_eq_false h.1;refine ⟨by omega,fun x hx=>?_⟩;have h2:=List.any_eq_false.1 h.2 x hx;unfold TU at h2;simp only[Bool.or_eq_true,decide_eq_true_eq,not_or] at h2;omega
theorem Fb {xs ys:List eF}(h:xs.map eQ=ys.map eQ):mL xs=mL ys:=by
 have hl:xs.length=ys.length:=by have:=congrArg List.length h;simpa using this
 have e:∀l:List eF,l.all mK=(l.map eQ).all zi:=fun l=>by
  rw[List.all_map]
  congr 1
  funext s
  exact DW s
 have ha:xs.all mK=ys.all mK:=by rw[e,e,h]
 unfold mL;rw[hl,ha,h]
theorem Apart.low {B E C:Nat}{V W:World}(h:Apart B E V W)(hB:C≤B)(hV:C≤V.heap.size):Below C V W :=
 ⟨h.rest.1,h.rest.2,h.rest.3,h.rest.4,fun b hb=>h.block b (by omega) (by omega)⟩
theorem Gp {B E:Nat}{o:Option Addr}{l:List Nat}{V W U:World}(h:Bs V o l)(hU:Bs U o l)(hB:U.heap.size≤B)(a:Apart B E V W):Bs W o l:=fun j hj=>by
 obtain ⟨b,off,e,hc⟩:=h j hj;obtain ⟨b',off',e',hc'⟩:=hU j hj;rw[e] at e'
 cases e'
 exact ⟨b,off,e,by rw[cZ (w:=V) (a.block b (BU hc) (by have:=BU hc';omega))];exact hc⟩
theorem Kh {W:World}{B C:Nat}{o:Option Addr}{l:List eF}(h:iX 28 19 fP W B o l)(hf:∀z∈l,fF C z W):pE W o l:=fun k z hk=>by
 obtain ⟨g,cur,e1,_,_,_,h5⟩:=h.at_ k z hk;have hz:=hf z (aX hk);exact ⟨g,0,e1,h5,hz.at,hz.wf⟩
theorem JP {l:List Nat}(hl:By l):((splitK l).1.getD []).length≤100:=by
 cases h:splitK l with
 | mk kk e =>
  cases kk with
  | none=>exact cK _
  | some ks=>exact (VP hl h).2.2.2
theorem zP (xs:List eF)(o:Option Addr)(c:Nat)(hc:pJ o xs.length c)(l:List Nat)(ob:Option Addr)(cb:Nat)(hl:By l)(hq:l.length≤cb∧cb≤9223372036854775807∧(ob=none→cb=0))(w:World)(h:pE w o xs)(hb:Bs w ob l) :
  Calls prog 5 #[.slice o xs.length c,.slice ob l.length cb] w (fJ true w):=by
 have oO:=aA (show RkI xs o l ob w w from ⟨h,hb,aJ _ _⟩);have HC:=aA hc;have HQ:=aA hq;have yA:=aA hl;have HG:=aA (XJ xs o c w hc h);have hc1:=hc.1;obtain ⟨n,hn⟩:∃n,xs.length=n:=⟨_,rfl⟩;obtain ⟨nb,hnb⟩:∃n,l.length=n:=⟨_,rfl⟩;have HN:=aA hn;have UX:=aA hnb;rw[hn] at hc1 HG ⊢;rw[hnb];have n0:(0:Int)≤(n:Int):=by omega
 have nb0:(0:Int)≤(nb:Int):=by omega
 clear hc hl hq h hb hn hnb
 cases hg:qG xs with
 | true =>
  rw[hg] at HG;clear hg;go_enter func5,ntmps5;go_wp2_with fail;refine HG.out.mono ?_;rintro e w2 ⟨rfl,hb2⟩;have HE:=aA (dN oO.out.gL hb2);clear hb2 HG oO;go_wp2_with fail;go_ret;exact ⟨rfl,HE.out⟩
 | false =>
  have hx6:n≤6:=by
   unfold qG at hg;rw[Bool.or_eq_false_iff] at hg;have:=of_decide_eq_false hg.1;have:=HN.out;omega
  have HGN:Hid (∀x∈xs,x.os.length≤1000∧∀y∈x.os,y.vs.length≤1000∧y.ts.length≤1000):=aA (fun x hx=>by
   unfold qG at hg;rw[Bool.or_eq_false_iff] at hg;have h2:=List.any_eq_false.1 hg.2 x hx;exact Fq (by simpa using h2))
  rw[hg] at HG;clear hg;by_cases hlong:(20000:Int)<(nb:Int)
  ·go_enter func5,ntmps5
   go_wp2_with fail;refine HG.out.mono ?_;rintro e w2 ⟨rfl,hb2⟩;have HE:=aA (dN oO.out.gL hb2);clear hb2 HG oO;go_wp2_with fail;go_ret;exact ⟨rfl,HE.out⟩
  ·have nS:decide ((20000:Int)<(nb:Int))=false:=by simpa using hlong
   have UL:Hid (l.length≤20000):=aA (by have:=UX.out;omega);go_enter func5,ntmps5;go_wp2_with fail;refine HG.out.mono ?_;rintro e w2 ⟨rfl,hb2⟩;have jP:=aA (oO.out.up hb2);clear hb2 HG oO;go_wp2_with fail;go_loopg[5,28] n (fun g so si wx=>∃ (k:Nat) (v:Value) (cs:List eF),g=n-k∧si=.int .i64 (k:Int)∧k≤n∧so=v∧cs.length=k∧cs.map eQ=(xs.take k).map eQ∧AB [] w2 v cs wx)
   case atStart=>exact ⟨0,_,[],rfl,rfl,by omega,rfl,rfl,by simp,⟨aJ _ _,fK.nil _ _ _ _ _,fun z hz=>by simp at hz⟩⟩
   case round =>
    obtain ⟨k,v,cs,rfl,rfl,hk,rfl,Av,hck,hi⟩:=hrel;obtain ⟨wo,Me⟩:∃X,X=wr:=⟨_,rfl⟩;subst Me;have Ro:=aA Av;have HCK:=aA hck;have HJ:=aA hi;obtain ⟨of,cf,rfl,hcf,_⟩:=hi.own.form (fun z hz=>by simp[fP,(hi.each z hz).wf.len]);have hcf1:=hcf.1;have HCF:=aA hcf;clear Av hck hi hcf;have k0:(0:Int)≤(k:Int):=by omega
    by_cases pK:k<n
    ·have t2:(k:Int)<(n:Int):=by omega
     obtain ⟨x,hx⟩:∃x,xs[k]?=some x:=⟨_,aF (by rw[HN.out];exact pK)⟩;obtain ⟨b,off,rfl,lX⟩:=jP.out.sc k x hx;have hat:=lX.below HJ.out.gL;have HX:=aA hat;have hi:=aA (oU hat.wf);have hgx:=HGN.out x (aX hx);have og:=aA (show Calls prog 11 #[.agg (fP x).toArray] wo (Qm x wo) from Dp x wo hat.wf hat.objs hgx.1 hgx.2);have HKS:Hid ((xs.take (k+1)).map eQ=(xs.take k).map eQ++[eQ x]):=aA (by rw[bX,hx,List.map_append];rfl);clear lX hat hx hgx;go_wp2_with (with_reducible refine dQ (some 34) rfl ?_;refine aA ?_;refine wpList_load_mid rfl 28 (.tmp 33) rfl b (off+k*19) rfl (fP x) _ HX.out.cells aW rfl hi.out ?_)
     refine og.out.mono ?_;rintro e w6 ⟨t,rfl,hkey,BJ,KL⟩;obtain ⟨V1,hV1⟩:∃V,w6.alloc (.cells #[.int .i64 0,.int .i64 0,.int .i64 0,.int .i64 0,.int .i64 0,.int .i64 0,.int .i64 0,.int .i64 0,.int .i64 0,.int .i64 0,.int .i64 0,.int .i64 0,.int .i64 0,.int .i64 0,.int .i64 0,.int .i64 0,.int .i64 0,.int .i64 0,.slice none 0 0] 28)=V:=⟨_,rfl⟩;obtain ⟨V2,hV2⟩:∃V,V1.setRow w6.heap.size (eU t)=V:=⟨_,rfl⟩;have r1:dI 28 w6.heap.size #[.int .i64 0,.int .i64 0,.int .i64 0,.int .i64 0,.int .i64 0,.int .i64 0,.int .i64 0,.int .i64 0,.int .i64 0,.int .i64 0,.int .i64 0,.int .i64 0,.int .i64 0,.int .i64 0,.int .i64 0,.int .i64 0,.int .i64 0,.int .i64 0,.slice none 0 0] V1:=by rw[←hV1];exact dI.new _ _ _
     have r2:V2.heap[w6.heap.size]?=some (.cells (eU t) 28 (0,0)):=by rw[←hV2];exact setRow_heap _ _ _ _ _ _ r1
     have b2:Below w6.heap.size w6 V2:=by rw[←hV2,←hV1];exact Below.row ((aJ _ _).alloc (aB _) _) (aB _) _
     have Hj:=aA r1;have ni:Hid (V2.rangeAt w6.heap.size 0 (fP t)):=aA (fun j u hj=>by rw[bE];exact (show eZ w6.heap.size t V2 from r2).at.trans hj);have YN:=aA ((HJ.out.up KL).up b2);have qw:Hid (fF w2.heap.size t V2):=aA ((BJ.rows (Rows.of_below b2) (Rows.of_below b2) (Rows.of_below b2)).low HJ.out.gL.size);have nT:=aA (oU BJ.wf);have Nj:=aA (JR t BJ.wf (.slice t.oo t.os.length t.oc));have Rz:=aA (show 19=(eU t).size from (sH BJ.wf (.slice t.oo t.os.length t.oc)).symm);have Sd:=aA (show (eU t).all (·.oneCell')=true from nA t (.slice t.oo t.os.length t.oc) rfl);have qR:Hid ((fP t).length=19):=aA (lR BJ.wf);have vF:=aA hV1;have oM:=aA hV2;have Rm:=aA hkey;obtain ⟨V3,oG⟩:∃V,V2.alloc (.cells (fP t).toArray 28)=V:=⟨_,rfl⟩;have hb3:Below V2.heap.size V2 V3:=by rw[←oG];exact (aJ _ _).alloc (aB _) _
     have mG:=aA (show V3.heap[V2.heap.size]?=some (.cells (fP t).toArray 28 (0,0)) by rw[←oG];exact aG _ _);have Ct:=aA (YN.out.up hb3);have qx:Hid (fF w2.heap.size t V3):=aA (qw.out.rows (Rows.of_below hb3) (Rows.of_below hb3) (Rows.of_below hb3));have GV:=aA oG;clear r1 r2 b2 BJ hkey KL hV1 hV2 oG hb3 og HJ YN qw;go_wp2_with (first|(rw[vF.out])|(rw[oM.out])|(refine dG rfl 28 (.tmp 7) (.tmp 35) rfl w6.heap.size _ _ (eU t) rfl rfl Hj.out Nj.out Rz.out Sd.out ?_)|(rw[GV.out])|(with_reducible refine dQ (some 37) rfl ?_;refine aA ?_;refine wpList_load_mid rfl 28 (.tmp 7) rfl w6.heap.size 0 rfl (fP t) _ ni.out aW rfl nT.out ?_)|(with_reducible refine dQ (some 38) rfl ?_;refine aA ?_;refine jC yG (by omega) rfl (.tmp 37) 52 rfl cW (fP t).toArray rfl (by rw[aL];exact qR.out) ?_)|(at_builtin;refine pD yG rfl (.tmp 36) (.tmp 38) 52 rfl cW w2.heap.size (.slice of cs.length cf) cs [t] rfl Ct.out.gL.size Ct.out.own (some ⟨V2.heap.size,0,none⟩) 1 rfl (fun h=>by cases h) (kE mG.out) (fun z hz=>by simp at hz;subst hz;exact qR.out) (fun z _=>LW z) (by have:=Ro.out;simp;omega) ?_))
     intro v' w7 Mr jf;refine aA ?_;have Ho:Hid (AB [] w2 v' (cs++[t]) w7):=aA (Ct.out.app qx.out Mr jf);obtain ⟨ow,cw,tB,_,_⟩:=Mr.form (fun z hz=>by simp[fP,(Ho.out.each z hz).wf.len]);subst tB;clear Mr jf Ct qx;obtain ⟨ml,jH⟩:∃ml,(cs++[t]).length=ml:=⟨_,rfl⟩;rw[jH] at Ho ⊢;clear jH;go_wp2_with fail;go_roundg (n-(k+1))
     case measure=>omega
     case rel=>exact ⟨k+1,_,cs++[t],rfl,by go_num,by omega,rfl,by simp[Ro.out],by rw[List.map_append,HKS.out,HCK.out,List.map_cons,Rm.out];rfl,Ho.out⟩
    ·obtain rfl:k=n:=by omega
     have t2:¬ (k:Int)<(k:Int):=by omega
     have Si:cs.map eQ=xs.map eQ:=by have:=HCK.out;rwa [bB (by rw[HN.out];omega)] at this
     obtain ⟨_,_,e1,hcz,hsz⟩:=LU HJ.out.own HJ.out.each
     cases e1;have HKK:=aA Si;have UH:=aA hsz;have HRK:=aA (jP.out.up HJ.out.gL);have Hq:Hid (∀ys:List eF,ys.length=k→pE wo of cs→ys.map eQ=cs.map eQ→ys.all mK=true→(oZ (ys.map eQ)).length≤900000):=aA (fun ys hy hs he ha=>by
      have hd:∀z∈ys.map eQ,Gl z:=fun z hz=>by
       rw[he] at hz;obtain ⟨s,hs2,rfl⟩:=List.mem_map.1 hz;obtain ⟨i,hi⟩:=List.getElem?_of_mem hs2;obtain ⟨b,off,_,hat⟩:=hs i s hi;refine vZ hat.wf hat.objs ?_;have : eQ s∈ys.map eQ:=by rw[he];exact List.mem_map.2 ⟨s,hs2,rfl⟩
       obtain ⟨s2,h3,h4⟩:=List.mem_map.1 this;rw[DW,←h4,←DW];exact bU.1 ha s2 h3
      unfold oZ;rw[aI];have h1:=eT ((ys.map eQ).length:Int);have h2:=uE hd;have h3:(ys.map eQ).length≤6:=by rw[aT,hy];exact hx6
      omega)
     have HP7:=aA (Er cs of cf wo hcz hsz (fun _ ha=>Hq.out cs Ro.out hsz rfl ha));unfold oA at HP7;rw[Fb Si] at HP7;have HFX:=aA (fun ha=>Hq.out xs HN.out hsz Si.symm ha);clear Si hcz hsz Hq jP;rw[Ro.out] at HP7 HCF ⊢;obtain ⟨R,hR⟩:∃R,mL xs=R:=⟨_,rfl⟩;have yU:=aA hR;rw[hR] at HP7;clear hR;go_wp2_with fail;refine HP7.out.mono ?_;rintro e w7 ⟨⟨v7,rfl,fu⟩,hb7⟩;obtain ⟨o7,c7,rfl,hbs7,_⟩:=fu.open;have HRK7:=aA (HRK.out.up hb7);have HS7:=aA (UH.out.below hb7);have HBS7:=aA hbs7;have HZ8:=aA (Dd xs o c w7 HC.out HRK7.out.sc (fun _ ha=>HFX.out ha));unfold oA at HZ8;rw[yU.out,HN.out] at HZ8;clear fu hbs7 hb7 HP7 HRK UH HJ HFX;go_wp2_with fail;refine HZ8.out.mono ?_;rintro e w8 ⟨⟨v8,rfl,eu⟩,hb8⟩;obtain ⟨o8,c8,rfl,hbs8,_⟩:=eu.open;have Yr:=aA (HRK7.out.up hb8);have HS8:=aA (HS7.out.below hb8);have HBS8:=aA hbs8;have qz:=aA (HBS7.out.below hb8);have HP9:=aA (DJ l ob cb w8 yA.out (by have:=UL.out;omega) HQ.out.1 HQ.out.2.1 Yr.out.bs);unfold rS at HP9;obtain ⟨Q,hQ⟩:∃Q,splitK l=Q:=⟨_,rfl⟩;have Im:=aA hQ;rw[hQ,UX.out] at HP9;clear eu hbs8 hb8 HZ8 HRK7 HS7 HBS7 hQ;go_wp2_with fail;refine HP9.out.mono ?_;rintro e w9 ⟨⟨v9,fs,rfl,Mn,hfr9,iy⟩,OU⟩;have HRK9:=aA (Yr.out.up OU);have HB89:=aA OU;have HO9:=aA Mn;have HF9:=aA hfr9;have HK9:=aA iy;have Yh:=aA (UZ l ob cb w9 yA.out (by have:=UL.out;omega) HQ.out.1 HQ.out.2.1 HRK9.out.bs);unfold rS at Yh;rw[Im.out,UX.out] at Yh;obtain ⟨om,cm,rfl,hcm,hsm9⟩:=LU Mn hfr9;have HCM:=aA hcm;have hcm1:=hcm.1;have HS89:=aA (HS8.out.below OU);have HB79:=aA (qz.out.below OU);have HB9:=aA (HBS8.out.below OU);have HSM9:=aA hsm9;obtain ⟨nf,hnf⟩:∃n,fs.length=n:=⟨_,rfl⟩;have HNF:=aA hnf;rw[hnf] at hcm1 ⊢;clear Mn hfr9 iy OU hcm hsm9 hnf HP9 HS8 HBS8 qz;go_wp2_with fail;refine Yh.out.mono ?_;rintro e w10 ⟨⟨v10,gs,rfl,XA,Np,XE⟩,XI⟩;obtain ⟨on,cn,rfl,Ns,bn⟩:=LU XA Np;have hcn1:=Ns.1;have hkfg:fs.map eQ=gs.map eQ:=HK9.out.trans XE.symm;have qc:=aA (HRK9.out.up XI);have HCN:=aA Ns;have HO10:=aA XA;have HF10:=aA Np;have HK10:=aA XE;have HSM:=aA (HSM9.out.below XI);have HSO:=aA (HS89.out.below XI);have HB910:=aA XI;have HBA:=aA (HB79.out.below XI);have zK:=aA (HB9.out.below XI);have q1:=Pk.vA (W:=w10) c7 rfl HBA.out;have q2:=Pk.vA (W:=w10) c8 rfl zK.out;have OT:fs.length≤1000000:=by have h1:=congrArg List.length HK9.out;rw[aT] at h1;have h2:=JP yA.out;rw[Im.out] at h2;omega
     have HFI:=aA (yN fs gs om on cm cn w10 HCM.out Ns HSM.out bn OT hkfg);have HKFG:=aA hkfg;obtain ⟨ng,hng⟩:∃n,gs.length=n:=⟨_,rfl⟩;have HNG:=aA hng;rw[HNF.out,hng] at HFI;rw[hng] at hcn1 ⊢;generalize (R.1.getD [])=LL at q1 q2 ⊢;generalize Pk.fR LL=sl at q1 q2;clear XA Np XE XI Ns bn hng OT hkfg Yh HRK9 HS89 HB79 HB9 HSM9;go_wp2_with fail;refine HFI.out.mono ?_;rintro e w11 ⟨rfl,Ob⟩;have Re:=aA (qc.out.up Ob);have HB911:=aA (dN HB910.out Ob);have HFO:=aA (yN cs xs of o cf c w11 (by have:=HCF.out;rwa [Ro.out]) HC.out (HSO.out.below Ob) Re.out.sc (by have:=Ro.out;omega) HKK.out);rw[Ro.out,HN.out] at HFO;have HB1011:=aA Ob;clear Ob HFI qc;go_wp2_with fail;refine HFO.out.mono ?_;rintro e w12 ⟨rfl,Wu⟩;have qb:=aA (Re.out.up Wu);have Cu:=aA (dN HB911.out Wu);have OO:=aA (dN HB1011.out Wu);clear Wu HFO Re;go_wp2_with fail;go_loopg[90] nf (fun g sj wx=>∃k2:Nat,g=nf-k2∧sj=.int .i64 (k2:Int)∧k2≤nf∧gN w8.heap.size w9.heap.size w12 wx)
     case atStart=>exact ⟨0,rfl,rfl,by omega,gN.refl _ _ _⟩
     case round =>
      obtain ⟨k2,rfl,rfl,hk2,Nk⟩:=hrel;obtain ⟨Ji,iW⟩:∃X,X=wr:=⟨_,rfl⟩;subst iW;have HIO:=aA Nk;clear Nk;have k20:(0:Int)≤(k2:Int):=by omega
      by_cases hkf:k2<nf
      ·have t3:(k2:Int)<(nf:Int):=by omega
       obtain ⟨z,hz⟩:∃z,fs[k2]?=some z:=⟨_,aF (by rw[HNF.out];exact hkf)⟩;obtain ⟨_,_,e1,_,hlm⟩:=HO9.out.form (fun z hz=>lR (HF9.out z hz).wf)
       cases e1;have hlm2:=(hlm.rows (Rows.of_below Cu.out)).rows (fun g cur h=>HIO.out.row h);obtain ⟨g,cur,e2,_,_,_,SC⟩:=hlm2.at_ k2 z hz;have hzf:=HF9.out z (aX hz);have hspx:=((YE.of hzf).up Cu.out).only HIO.out;have hE:w9.heap.size≤Ji.heap.size:=by have:=HIO.out.apart.size;have:=Cu.out.size;omega
       have HSA:=aA (show Calls prog 20 #[.agg (fP z).toArray] Ji (lu w8.heap.size w9.heap.size Ji) from Dz w8.heap.size w9.heap.size z Ji hzf.wf (fun x hx=>(hzf.each x hx).wf) hspx hE);have HRG:=aA (show Ji.rangeAt g (k2*19) (fP z) from by have h:=SC;rwa [bE] at h);have IL:=aA (oU hzf.wf);subst e2;clear hz hlm hlm2 SC hzf hspx hE;go_wp2_with (with_reducible refine dQ (some 96) rfl ?_;refine aA ?_;refine wpList_load_mid rfl 28 (.tmp 95) rfl g (k2*19) rfl (fP z) _ HRG.out aW rfl IL.out ?_)
       refine HSA.out.mono ?_;rintro e w14 ⟨⟨v14,rfl⟩,ho14⟩;have qp:=aA (HIO.out.trans ho14);clear ho14 HSA HIO HRG;go_wp2_with fail;go_roundg (nf-(k2+1))
       case measure=>omega
       case rel=>exact ⟨k2+1,rfl,by go_num,by omega,qp.out⟩
      ·obtain rfl:k2=nf:=by omega
       have t3:¬ (k2:Int)<(k2:Int):=by omega
       have hap:=HIO.out.apart;have oH:w9.heap.size≤w12.heap.size:=Cu.out.size;have h89:w8.heap.size≤w9.heap.size:=HB89.out.size;have kH:w.heap.size≤w8.heap.size:=Yr.out.gL.size;have hbl:Below w.heap.size w12 Ji:=hap.low kH (by omega);have Fg:Below w.heap.size w Ji:=wM (pC (aB _) qb.out.gL) hbl;have jo:Bs Ji ob l:=Gp qb.out.bs Yr.out.bs (aB _) hap;have tC:iX 28 19 fP Ji w9.heap.size on gs:=by
        obtain ⟨_,_,e1,_,hl10⟩:=HO10.out.form (fun z hz=>lR (HF10.out z hz).wf)
        cases e1;exact (hl10.rows (Rows.of_below OO.out)).apart (aB _) hap
       have hfn:∀z∈gs,fF w9.heap.size z Ji:=fun z hz=>((HF10.out z hz).rows (Rows.of_below OO.out) (Rows.of_below OO.out) (Rows.of_below OO.out)).apart (aB _) hap
       have HSN13:=aA (Kh tC hfn);have HBW:=aA Fg;have HPA:=aA (DJ l ob cb Ji yA.out (by have:=UL.out;omega) HQ.out.1 HQ.out.2.1 jo);unfold rS at HPA;rw[Im.out,UX.out] at HPA;clear hap oH h89 kH hbl Fg jo tC hfn;go_wp2_with fail;refine HPA.out.mono ?_;rintro e w14 ⟨⟨v14,hs,rfl,Mp,jg,Nh⟩,hb14⟩;obtain ⟨oa,ca,rfl,hca,cu⟩:=LU Mp jg;have hca1:=hca.1;have hkk2:hs.map eQ=gs.map eQ:=Nh.trans HK10.out.symm;have HLA:=aA (yN hs gs oa on ca cn w14 hca HCN.out cu (HSN13.out.below hb14) (by have h1:=congrArg List.length hkk2;rw[aT,aT] at h1;have h3:=congrArg List.length HKFG.out;rw[aT,aT] at h3;have h2:=JP yA.out;rw[Im.out] at h2;have h4:=congrArg List.length HK9.out;rw[aT] at h4;omega) hkk2);have HE:=aA (dN HBW.out hb14);obtain ⟨na,hna⟩:∃n,hs.length=n:=⟨_,rfl⟩;rw[hna,HNG.out] at HLA;rw[hna] at hca1 ⊢;clear Mp jg Nh hb14 hca cu hkk2 hna HPA;go_wp2_with fail;refine HLA.out.mono ?_;rintro e w15 ⟨rfl,hb15⟩;have HF:=aA (dN HE.out hb15);clear hb15 HLA;go_wp2_with fail;go_ret;exact ⟨rfl,HF.out⟩
end Fx
end Go.Proofs.YtbbhmhihpdmoiaaGreat
