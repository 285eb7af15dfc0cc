import Derived.Test.YtbbhmhihpdmoiaaGreatJf17
set_option linter.unusedVariables false
set_option linter.unusedSimpArgs false
set_option maxRecDepth 100000
set_option maxHeartbeats 32000000
namespace Go.Proofs.YtbbhmhihpdmoiaaGreat
open Go.Proofs.Tryz
namespace Fx
open Go Go.RowKit
open Pk (PR fW Bs)
theorem tO (a b:Addr)(w:World) :
  CallsD prog 109 #[.pointer (some a),.pointer (some b)] .returning w fun e u' w'=>e=.returned (.tuple #[])∧u'=.returning∧w'=w:=by
 refine callsD_of_wpS func109 rfl fun c₀ cs hu=>?_
 apply wpS_seq
 apply wpS_region
 simp[wpOpsS,go_sem,recoverD,hu,ntmps109,Exit.thenS];refine wpS_cond (t:=false) (by simp[Act.eval,Array.replicate]) ?_;simp only[bD,if_false];refine wpS_of_wp (wp_skip ?_)
 cases c₀
 simp_all [bodyPostS,results,results109]
theorem Ut (B:Nat)(o:Option Addr)(c:Nat)(l:List Nat)(p dR:Nat)(lost:Bool)(w:World)(hB:B≤w.heap.size)(k:fW l dR)(h:PR o c l p dR lost w)(iE:∀b off,o=some ⟨b,off,none⟩→0<l.length→b<w.heap.size) :
  Calls prog 78 #[.pointer (some ⟨p,0,none⟩),.int .i64 64,.func (.func 79) #[] #[]] w (OZ (fun z:List Int=>z) 85 3 (List.map encI) (fun (z:List Int) (_:World)=>jI z) o c l p (eP lost (fG 64 oT) l dR) w):=by
 have vR:OP 85 70 (fun (z:List Int) (_:World)=>jI z):=fun z W X h _=>h
 have lK:=aA vR;have hmf:∀ (fn:Fn) (first cap:Array Value) (w:World),(Instr.makeFunc fn first cap).run prog w=.ok (.func fn first cap) w:=fun _ _ _ _=>rfl
 have hp:=h.lt;obtain ⟨W1,hW1⟩:∃W1,(w.alloc (.cells #[.pointer (some ⟨p,0,none⟩)] 90)).alloc (.cells #[.slice none 0 0] 70)=W1:=⟨_,rfl⟩;have hb1:Below w.heap.size w W1:=by rw[←hW1];exact ((aJ _ w).alloc (aB _) _).alloc (by simp) _
 have hs:=Pk.nJ o c l p dR 64 lost W1 k (by omega) (h.below hb1);have yJ:CF 85 70 3 (List.map encI) (fun (z:List Int) (_:World)=>jI z) o c l p dR lost (.slice none 0 0) [] w W1:=by
  refine ⟨?_,?_,h.below hb1,fK.nil _ _ _ _ _,fun z hz=>by simp at hz,Pk.below_grown hb1 (some p)⟩
  ·rw[←hW1];exact dM (aG _ _)
  ·rw[←hW1]
   have:=aG (w.alloc (.cells #[.pointer (some ⟨p,0,none⟩)] 90)) (.cells #[.slice none 0 0] 70);rw[aR] at this;exact this
 have HS:=aA hs;have kG:=aA yJ;have HK:=aA k;have HP:=aA hp;have jA:=aA iE;have xY:=aA hW1;clear hs yJ h iE hb1 hW1 k hp vR hB;have oW:=kM (lost:=lost) (most:=64) (l:=l) (a:=dR);obtain ⟨R,hR⟩:∃R,Pk.rz lost (64:Int) (l.drop dR)=R:=⟨_,rfl⟩;have Oe:Pk.rz lost ((64:Nat):Int) (l.drop dR)=R:=hR;rw[hR] at HS;rw[Oe] at oW;obtain ⟨r,hr⟩:∃r,eP lost (fG 64 oT) l dR=r:=⟨_,rfl⟩;have OI:Hid (r=match R.map (fun q=>((q.1:Int),dR+q.2)) with|none=>none|some (n,b)=>fE oT n.toNat l b):=aA (by
  rw[←hr,oW];unfold eP fG
  cases lost <;> rfl)
 have Rc:Hid (∀q,R=some q→q.1≤64∧dR+q.2≤l.length):=aA (fun q hq=>by
  rw[hq] at oW;simp only[Option.map_some] at oW;unfold eP at oW
  split at oW
  ·cases oW
  ·have:=zD HK.out.at' oW.symm
   omega)
 rw[hr];clear hR Oe oW hr
 cases R with
 | none =>
  have SE:r=none:=OI.out;subst SE
  go_enter_defers func78,ntmps78
  go_wp2_with fail;rw[xY.out];refine HS.out.mono ?_;rintro e w1 ⟨rfl,hr1,hg1⟩;simp only[Pk.pR,Pk.YU,Pk.YT,Option.isNone_none] at hr1 ⊢;have sW:=kG.out.read lK.out (by decide) HP.out hr1 hg1;obtain ⟨c0,c1,f1⟩:=sW.facts;have jD:=aA (sW.strike lK.out (by decide) HP.out jA.out);have jZ:Hid (OZ (fun z:List Int=>z) 85 3 (List.map encI) (fun (z:List Int) (_:World)=>jI z) o c l p none w (.returned (.slice none 0 0)) (w1.setCell ⟨w.heap.size+1,0,none⟩ (.slice none 0 0))):=aA ⟨jD.out.grow,fun _=>⟨rfl,dR,HK.out.at',jD.out.rd⟩,fun zs a h=>by cases h⟩;clear hr1 hg1 sW HS kG;go_wp2_with fail;go_loopg[12] 0 (fun g s12 wr=>g=0∧s12=.int .i64 0∧wr=w1)
  case atStart=>exact ⟨rfl,rfl,rfl⟩
  case round =>
   obtain ⟨_,rfl,rfl⟩:=hrel;go_wp2_with fail;refine leaves_cons (f:=109) (args:=#[.pointer (some ⟨w.heap.size,0,none⟩),.pointer (some ⟨w.heap.size+1,0,none⟩)]) (by simp) (by simp[go_sem]) ?_;refine (tO ⟨w.heap.size,0,none⟩ ⟨w.heap.size+1,0,none⟩ _).mono ?_;rintro e u' w'' ⟨rfl,rfl,rfl⟩;obtain ⟨_,dr,_⟩:=jD.out.facts;simp only[Leaves,settle];refine ⟨_,(by simp[results,results78,go_sem,dr];rfl),?_⟩;exact jZ.out
 | some q =>
  obtain ⟨n,j⟩:=q;have zR:r=fE oT n l (dR+j):=OI.out;obtain ⟨GM,BN⟩:=Rc.out (n,j) rfl;dsimp only at GM BN;obtain ⟨iQ,wJ⟩:∃iQ,dR+j=iQ:=⟨_,rfl⟩;rw[wJ] at zR BN;have Il:=aA zR;have JE:=aA wJ;have HNM:=aA GM;have n0:(0:Int)≤(n:Int):=by omega
  have n9:(n:Int)≤64:=by omega
  clear OI Rc zR GM wJ
  go_enter_defers func78,ntmps78
  go_wp2_with fail;rw[xY.out];refine HS.out.mono ?_;rintro e w1 ⟨rfl,hr1,hg1⟩;simp only[Pk.pR,Pk.YU,Pk.YT,Option.isNone_some] at hr1 ⊢;rw[JE.out] at hr1;have PE:=aA (kG.out.read lK.out (by decide) HP.out hr1 hg1);clear hr1 hg1 HS kG;go_wp2_with fail;go_loopg[7,12] n (fun g s7 s12 wr=>∃ (i a:Nat) (v:Value) (zs:List (List Int)),g=n-i∧i≤n∧s12=.int .i64 (i:Int)∧a≤l.length∧zs.length=i∧r=(fE oT (n-i) l a).map (fun q=>(zs.map (fun z:List Int=>z)++q.1,q.2))∧CF 85 70 3 (List.map encI) (fun (z:List Int) (_:World)=>jI z) o c l p a false v zs w wr)
  case atStart=>exact ⟨0,iQ,_,[],rfl,by omega,rfl,BN,rfl,by rw[Il.out];(cases fE oT (n-0) l iQ <;> rfl),PE.out⟩
  case round =>
   clear PE;obtain ⟨i,a,v,zs,Fc,nT,rfl,Od,hzs,wF,yJ⟩:=hrel;subst Fc;obtain ⟨c0,c1,f1⟩:=yJ.facts;have kG:=aA yJ;have yU:=aA wF;have Hg:=aA hzs;have YL:Hid (fW l a):=aA ⟨HK.out.by',HK.out.len,Od⟩;have i00:(0:Int)≤(i:Int):=by omega
   clear yJ wF hzs;by_cases sB:i<n
   ·have t1:(i:Int)<(n:Int):=by omega
    have iM:=Dr o c l p a false wr YL.out kG.out.rd (fun b off e h=>by have:=jA.out b off e h;have:=kG.out.lt;omega);have Mt:n-i=(n-(i+1))+1:=by omega
    have hr2:=yU.out;rw[Mt,kW] at hr2;unfold PVal mD at iM;have hrun:eP false oT l a=oT l a:=rfl;rw[hrun] at iM;obtain ⟨R2,UO⟩:∃R2,oT l a=R2:=⟨_,rfl⟩;rw[UO] at iM hr2;have mX:=aA iM;have iP:=aA hr2;clear iM Mt hr2 UO yU hrun;go_wp2_with fail;refine mX.out.mono ?_;rintro e w2 ⟨hg2,x,rfl,hex,hx2⟩;clear mX
    cases R2 with
    | none =>
     have mG:Hid (r=none):=aA iP.out;obtain ⟨a2,ha2,hr2⟩:=hx2;have sW:=kG.out.read lK.out (by decide) HP.out hr2 hg2;obtain ⟨V2,hV2⟩:∃V,w2.alloc (.cells #[.int .i64 0,.int .i64 0,.int .i64 0] 85)=V:=⟨_,rfl⟩;have r2:dI 85 w2.heap.size #[.int .i64 0,.int .i64 0,.int .i64 0] V2:=by rw[←hV2];exact dI.new _ _ _
     obtain ⟨Y2,lM⟩:∃V,V2.setRow w2.heap.size ((List.map encI) x).toArray=V:=⟨_,rfl⟩;have r3:dI 85 w2.heap.size ((List.map encI) x).toArray Y2:=by rw[←lM];exact r2.row _
     have hb2:Below w2.heap.size w2 Y2:=by rw[←lM,←hV2];exact Below.row ((aJ _ _).alloc (aB _) _) (aB _) _
     have lL:=sW.up lK.out hb2;have vJ:=lK.out x _ _ hex (fun u _ _ _=>Rows.of_below hb2);have oM:=aA hV2;have zI:=aA lM;have GD:=aA r2;have UK:=aA (show Y2.rangeAt w2.heap.size 0 ((List.map encI) x) from fun j u hj=>by rw[aD _ _ _ _ _ _ r3,bE];simpa using hj);have tC:((List.map encI) x).length=3:=(by rw[aT];exact hex.len);have vQ:=aA (show (prog.info? 85).map (·.size)=some ((List.map encI) x).toArray.size by rw[aL,tC];kernel_rfl);have nT:=aA (show (prog.info? 85).map (·.size)=some ((List.map encI) x).length by rw[tC];kernel_rfl);have IL:=aA (show 3=((List.map encI) x).toArray.size by rw[aL,tC]);have IK:Hid (((List.map encI) x).toArray.all (·.oneCell')=true):=aA (by rw[List.all_toArray,bU];exact fun u hu=>xR x u hu);clear hV2 lM r2 r3 hb2 sW tC;obtain ⟨d0,d1,e1⟩:=lL.facts;obtain ⟨g0,g1,_⟩:=lL.rd.facts;have HF:=aA (Pk.fV p true true Y2 g0 g1);have jD:=aA (lL.strike lK.out (by decide) HP.out jA.out);have jZ:Hid (OZ (fun z:List Int=>z) 85 3 (List.map encI) (fun (z:List Int) (_:World)=>jI z) o c l p r w (.returned (.slice none 0 0)) (Y2.setCell ⟨w.heap.size+1,0,none⟩ (.slice none 0 0))):=aA ⟨jD.out.grow,fun _=>⟨rfl,a2,ha2,jD.out.rd⟩,fun zs a h=>by rw[mG.out] at h;cases h⟩;clear hr2 hg2 lL kG iP mG c0 c1 f1 g0 g1;go_wp2_with (first|(rw[oM.out])|(rw[zI.out])|(refine dG rfl 85 (.tmp 7) (.tmp 16) rfl w2.heap.size _ _ ((List.map encI) x).toArray rfl rfl GD.out vQ.out IL.out IK.out ?_))
     refine HF.out.mono ?_;rintro e w3 ⟨rfl,rfl⟩;simp only[Pk.fl,if_true];go_wp2_with fail;refine leaves_cons (f:=109) (args:=#[.pointer (some ⟨w.heap.size,0,none⟩),.pointer (some ⟨w.heap.size+1,0,none⟩)]) (by simp) (by simp[go_sem]) ?_;refine (tO ⟨w.heap.size,0,none⟩ ⟨w.heap.size+1,0,none⟩ _).mono ?_;rintro e u' w'' ⟨rfl,rfl,rfl⟩;obtain ⟨_,dr,_⟩:=jD.out.facts;simp only[Leaves,settle];refine ⟨_,(by simp[results,results78,go_sem,dr];rfl),?_⟩;exact jZ.out
    | some q2 =>
     obtain ⟨kx,jj⟩:=q2;obtain ⟨Nf,IJ,hr2⟩:=hx2;have sW:=kG.out.read lK.out (by decide) HP.out hr2 hg2;obtain ⟨V2,hV2⟩:∃V,w2.alloc (.cells #[.int .i64 0,.int .i64 0,.int .i64 0] 85)=V:=⟨_,rfl⟩;have r2:dI 85 w2.heap.size #[.int .i64 0,.int .i64 0,.int .i64 0] V2:=by rw[←hV2];exact dI.new _ _ _
     obtain ⟨Y2,lM⟩:∃V,V2.setRow w2.heap.size ((List.map encI) x).toArray=V:=⟨_,rfl⟩;have r3:dI 85 w2.heap.size ((List.map encI) x).toArray Y2:=by rw[←lM];exact r2.row _
     have hb2:Below w2.heap.size w2 Y2:=by rw[←lM,←hV2];exact Below.row ((aJ _ _).alloc (aB _) _) (aB _) _
     have lL:=sW.up lK.out hb2;have vJ:=lK.out x _ _ hex (fun u _ _ _=>Rows.of_below hb2);have oM:=aA hV2;have zI:=aA lM;have GD:=aA r2;have UK:=aA (show Y2.rangeAt w2.heap.size 0 ((List.map encI) x) from fun j u hj=>by rw[aD _ _ _ _ _ _ r3,bE];simpa using hj);have tC:((List.map encI) x).length=3:=(by rw[aT];exact hex.len);have vQ:=aA (show (prog.info? 85).map (·.size)=some ((List.map encI) x).toArray.size by rw[aL,tC];kernel_rfl);have nT:=aA (show (prog.info? 85).map (·.size)=some ((List.map encI) x).length by rw[tC];kernel_rfl);have IL:=aA (show 3=((List.map encI) x).toArray.size by rw[aL,tC]);have IK:Hid (((List.map encI) x).toArray.all (·.oneCell')=true):=aA (by rw[List.all_toArray,bU];exact fun u hu=>xR x u hu);clear hV2 lM r2 r3 hb2 sW tC;obtain ⟨g0,g1,_⟩:=lL.rd.facts;have HF:=aA (Pk.fV p true false Y2 g0 g1);obtain ⟨ov,cv,MW,_,_⟩:=lL.own.form (fun z hz=>by rw[aT];exact (lL.el z hz).len);subst MW;obtain ⟨d0,d1,e1⟩:=lL.facts;have Yx:=aA Nf;have HJL:=aA IJ;obtain ⟨V3,oG⟩:∃V,Y2.alloc (.cells ((List.map encI) x).toArray 85)=V:=⟨_,rfl⟩;have hb3:Below Y2.heap.size Y2 V3:=by rw[←oG];exact (aJ _ _).alloc (aB _) _
     have OJ:=aA (lL.up lK.out hb3);have HEA:=aA (lK.out x _ _ vJ (fun u _ _ _=>Rows.of_below hb3));have mG:=aA (show V3.heap[Y2.heap.size]?=some (.cells ((List.map encI) x).toArray 85 (0,0)) by rw[←oG];exact aG _ _);have Hm:Hid (((List.map encI) x).toArray.size=3):=aA (by rw[aL];exact (by rw[aT];exact hex.len));have GV:=aA oG;have UH:Hid (w.heap.size+2≤V3.heap.size):=aA OJ.out.lt;clear hr2 hg2 lL kG c0 c1 f1 g0 g1 hex vJ Nf IJ oG hb3;go_wp2_with (first|(rw[oM.out])|(rw[zI.out])|(refine dG rfl 85 (.tmp 7) (.tmp 16) rfl w2.heap.size _ _ ((List.map encI) x).toArray rfl rfl GD.out vQ.out IL.out IK.out ?_))
     refine HF.out.mono ?_;rintro e w3 ⟨rfl,rfl⟩;simp only[Pk.fl,if_true,bD,if_false];clear HF;go_wp2_with (first|(rw[GV.out])|(with_reducible refine dQ (some 21) rfl ?_;refine aA ?_;refine wpList_load_mid rfl 85 (.tmp 7) rfl w2.heap.size 0 rfl ((List.map encI) x) _ UK.out cU rfl nT.out ?_)|(with_reducible refine dQ (some 22) rfl ?_;refine aA ?_;refine jC EH (by omega) rfl (.tmp 21) 70 rfl dD ((List.map encI) x).toArray rfl Hm.out ?_)|(at_builtin;refine pD EH rfl (.tmp 20) (.tmp 22) 70 rfl dD (w.heap.size+2) (.slice ov zs.length cv) zs [x] rfl UH.out OJ.out.own (some ⟨Y2.heap.size,0,none⟩) 1 rfl (fun h=>by cases h) (kE mG.out) (fun z hz=>by simp at hz;subst hz;have:=Hm.out;rwa [aL] at this) (fun z _=>xR z) (by have:=Hg.out;have:=HNM.out;simp;omega) ?_))
     intro v' w4 vP hg4;refine aA ?_;obtain ⟨oX,NF⟩:=OJ.out.app lK.out (by decide) HP.out jA.out vP hg4 (fun z hz=>by
      rcases bS.1 hz with hz|hz
      ·exact OJ.out.el z hz
      ·simp at hz
       subst hz;exact HEA.out)
     have s0:w4.cell? ⟨w.heap.size+1,0,none⟩=some (.slice ov zs.length cv):=(aD _ _ 0 _ _ _ oX).trans rfl;have s1:w4.frozen? ⟨w.heap.size+1,0,none⟩=false:=dJ oX;obtain ⟨ow,cw,tB,_,_⟩:=vP.form (fun z hz=>by rw[aT];exact (NF.el z hz).len);subst tB;have Rk:=aA NF;clear vP hg4 oX NF d0 d1 e1;obtain ⟨ml,jH⟩:∃ml,(zs++[x]).length=ml:=⟨_,rfl⟩;rw[jH] at Rk ⊢;clear jH;go_wp2_with fail;go_roundg (n-(i+1))
     case measure=>omega
     case rel =>
      refine ⟨i+1,jj,_,zs++[x],rfl,by omega,by go_num,HJL.out,by simp[Hg.out],?_,Rk.out⟩;rw[iP.out]
      (try dsimp only)
      rw[←Yx.out]
      cases fE oT (n-(i+1)) l jj with
      | none=>rfl
      | some q=>simp
   ·have t1:¬ (i:Int)<(n:Int):=by omega
    have oN:Hid (r=some (zs.map (fun z:List Int=>z),a)):=aA (by
     have:=yU.out;rw[show n-i=0 by omega] at this;rw[this];simp[fE])
    obtain ⟨ov,cv,MW,_,_⟩:=kG.out.own.form (fun z hz=>by rw[aT];exact (kG.out.el z hz).len);subst MW;have lJ:=(kG.out.app lK.out (by decide) HP.out jA.out kG.out.own (cG _ _) kG.out.el).2;have jD:=aA lJ;have jZ:Hid (OZ (fun z:List Int=>z) 85 3 (List.map encI) (fun (z:List Int) (_:World)=>jI z) o c l p r w (.returned (.slice ov zs.length cv)) (wr.setCell ⟨w.heap.size+1,0,none⟩ (.slice ov zs.length cv))):=aA ⟨lJ.grow,(fun h=>by rw[oN.out] at h;cases h),fun ks' a' h=>by rw[oN.out] at h;cases h;exact ⟨⟨_,zs,rfl,lJ.own.base (by omega),lJ.el,rfl⟩,Od,lJ.rd⟩⟩;clear yU kG lJ oN;go_wp2_with fail;refine leaves_cons (f:=109) (args:=#[.pointer (some ⟨w.heap.size,0,none⟩),.pointer (some ⟨w.heap.size+1,0,none⟩)]) (by simp) (by simp[go_sem]) ?_;refine (tO ⟨w.heap.size,0,none⟩ ⟨w.heap.size+1,0,none⟩ _).mono ?_;rintro e u' w'' ⟨rfl,rfl,rfl⟩;obtain ⟨_,dr,_⟩:=jD.out.facts;simp only[Leaves,settle];refine ⟨_,(by simp[results,results78,go_sem,dr];rfl),?_⟩;exact jZ.out
theorem tP (a b:Addr)(w:World) :
  CallsD prog 112 #[.pointer (some a),.pointer (some b)] .returning w fun e u' w'=>e=.returned (.tuple #[])∧u'=.returning∧w'=w:=by
 refine callsD_of_wpS func112 rfl fun c₀ cs hu=>?_
 apply wpS_seq
 apply wpS_region
 simp[wpOpsS,go_sem,recoverD,hu,ntmps112,Exit.thenS];refine wpS_cond (t:=false) (by simp[Act.eval,Array.replicate]) ?_;simp only[bD,if_false];refine wpS_of_wp (wp_skip ?_)
 cases c₀
 simp_all [bodyPostS,results,results112]
theorem Uu (B:Nat)(o:Option Addr)(c:Nat)(l:List Nat)(p dR:Nat)(lost:Bool)(w:World)(hB:B≤w.heap.size)(k:fW l dR)(h:PR o c l p dR lost w)(iE:∀b off,o=some ⟨b,off,none⟩→0<l.length→b<w.heap.size) :
  Calls prog 81 #[.pointer (some ⟨p,0,none⟩),.int .i64 64,.func (.func 82) #[] #[]] w (OZ (fun z:gB=>z) 87 4 fC (fun (z:gB) (_:World)=>mN z) o c l p (eP lost (fG 64 tJ) l dR) w):=by
 have vR:OP 87 71 (fun (z:gB) (_:World)=>mN z):=fun z W X h _=>h
 have lK:=aA vR;have hmf:∀ (fn:Fn) (first cap:Array Value) (w:World),(Instr.makeFunc fn first cap).run prog w=.ok (.func fn first cap) w:=fun _ _ _ _=>rfl
 have hp:=h.lt;obtain ⟨W1,hW1⟩:∃W1,(w.alloc (.cells #[.pointer (some ⟨p,0,none⟩)] 90)).alloc (.cells #[.slice none 0 0] 71)=W1:=⟨_,rfl⟩;have hb1:Below w.heap.size w W1:=by rw[←hW1];exact ((aJ _ w).alloc (aB _) _).alloc (by simp) _
 have hs:=Pk.nJ o c l p dR 64 lost W1 k (by omega) (h.below hb1);have yJ:CF 87 71 4 fC (fun (z:gB) (_:World)=>mN z) o c l p dR lost (.slice none 0 0) [] w W1:=by
  refine ⟨?_,?_,h.below hb1,fK.nil _ _ _ _ _,fun z hz=>by simp at hz,Pk.below_grown hb1 (some p)⟩
  ·rw[←hW1];exact dM (aG _ _)
  ·rw[←hW1]
   have:=aG (w.alloc (.cells #[.pointer (some ⟨p,0,none⟩)] 90)) (.cells #[.slice none 0 0] 71);rw[aR] at this;exact this
 have HS:=aA hs;have kG:=aA yJ;have HK:=aA k;have HP:=aA hp;have jA:=aA iE;have xY:=aA hW1;clear hs yJ h iE hb1 hW1 k hp vR hB;have oW:=kM (lost:=lost) (most:=64) (l:=l) (a:=dR);obtain ⟨R,hR⟩:∃R,Pk.rz lost (64:Int) (l.drop dR)=R:=⟨_,rfl⟩;have Oe:Pk.rz lost ((64:Nat):Int) (l.drop dR)=R:=hR;rw[hR] at HS;rw[Oe] at oW;obtain ⟨r,hr⟩:∃r,eP lost (fG 64 tJ) l dR=r:=⟨_,rfl⟩;have OI:Hid (r=match R.map (fun q=>((q.1:Int),dR+q.2)) with|none=>none|some (n,b)=>fE tJ n.toNat l b):=aA (by
  rw[←hr,oW];unfold eP fG
  cases lost <;> rfl)
 have Rc:Hid (∀q,R=some q→q.1≤64∧dR+q.2≤l.length):=aA (fun q hq=>by
  rw[hq] at oW;simp only[Option.map_some] at oW;unfold eP at oW
  split at oW
  ·cases oW
  ·have:=zD HK.out.at' oW.symm
   omega)
 rw[hr];clear hR Oe oW hr
 cases R with
 | none =>
  have SE:r=none:=OI.out;subst SE
  go_enter_defers func81,ntmps81
  go_wp2_with fail;rw[xY.out];refine HS.out.mono ?_;rintro e w1 ⟨rfl,hr1,hg1⟩;simp only[Pk.pR,Pk.YU,Pk.YT,Option.isNone_none] at hr1 ⊢;have sW:=kG.out.read lK.out (by decide) HP.out hr1 hg1;obtain ⟨c0,c1,f1⟩:=sW.facts;have jD:=aA (sW.strike lK.out (by decide) HP.out jA.out);have jZ:Hid (OZ (fun z:gB=>z) 87 4 fC (fun (z:gB) (_:World)=>mN z) o c l p none w (.returned (.slice none 0 0)) (w1.setCell ⟨w.heap.size+1,0,none⟩ (.slice none 0 0))):=aA ⟨jD.out.grow,fun _=>⟨rfl,dR,HK.out.at',jD.out.rd⟩,fun zs a h=>by cases h⟩;clear hr1 hg1 sW HS kG;go_wp2_with fail;go_loopg[12] 0 (fun g s12 wr=>g=0∧s12=.int .i64 0∧wr=w1)
  case atStart=>exact ⟨rfl,rfl,rfl⟩
  case round =>
   obtain ⟨_,rfl,rfl⟩:=hrel;go_wp2_with fail;refine leaves_cons (f:=112) (args:=#[.pointer (some ⟨w.heap.size,0,none⟩),.pointer (some ⟨w.heap.size+1,0,none⟩)]) (by simp) (by simp[go_sem]) ?_;refine (tP ⟨w.heap.size,0,none⟩ ⟨w.heap.size+1,0,none⟩ _).mono ?_;rintro e u' w'' ⟨rfl,rfl,rfl⟩;obtain ⟨_,dr,_⟩:=jD.out.facts;simp only[Leaves,settle];refine ⟨_,(by simp[results,results81,go_sem,dr];rfl),?_⟩;exact jZ.out
 | some q =>
  obtain ⟨n,j⟩:=q;have zR:r=fE tJ n l (dR+j):=OI.out;obtain ⟨GM,BN⟩:=Rc.out (n,j) rfl;dsimp only at GM BN;obtain ⟨iQ,wJ⟩:∃iQ,dR+j=iQ:=⟨_,rfl⟩;rw[wJ] at zR BN;have Il:=aA zR;have JE:=aA wJ;have HNM:=aA GM;have n0:(0:Int)≤(n:Int):=by omega
  have n9:(n:Int)≤64:=by omega
  clear OI Rc zR GM wJ
  go_enter_defers func81,ntmps81
  go_wp2_with fail;rw[xY.out];refine HS.out.mono ?_;rintro e w1 ⟨rfl,hr1,hg1⟩;simp only[Pk.pR,Pk.YU,Pk.YT,Option.isNone_some] at hr1 ⊢;rw[JE.out] at hr1;have PE:=aA (kG.out.read lK.out (by decide) HP.out hr1 hg1);clear hr1 hg1 HS kG;go_wp2_with fail;go_loopg[7,12] n (fun g s7 s12 wr=>∃ (i a:Nat) (v:Value) (zs:List gB),g=n-i∧i≤n∧s12=.int .i64 (i:Int)∧a≤l.length∧zs.length=i∧r=(fE tJ (n-i) l a).map (fun q=>(zs.map (fun z:gB=>z)++q.1,q.2))∧CF 87 71 4 fC (fun (z:gB) (_:World)=>mN z) o c l p a false v zs w wr)
  case atStart=>exact ⟨0,iQ,_,[],rfl,by omega,rfl,BN,rfl,by rw[Il.out];(cases fE tJ (n-0) l iQ <;> rfl),PE.out⟩
  case round =>
   clear PE;obtain ⟨i,a,v,zs,Fc,nT,rfl,Od,hzs,wF,yJ⟩:=hrel;subst Fc;obtain ⟨c0,c1,f1⟩:=yJ.facts;have kG:=aA yJ;have yU:=aA wF;have Hg:=aA hzs;have YL:Hid (fW l a):=aA ⟨HK.out.by',HK.out.len,Od⟩;have i00:(0:Int)≤(i:Int):=by omega
   clear yJ wF hzs;by_cases sB:i<n
   ·have t1:(i:Int)<(n:Int):=by omega
    have iM:=Dt o c l p a false wr YL.out kG.out.rd (fun b off e h=>by have:=jA.out b off e h;have:=kG.out.lt;omega);have Mt:n-i=(n-(i+1))+1:=by omega
    have hr2:=yU.out;rw[Mt,kW] at hr2;unfold PTri mD at iM;have hrun:eP false tJ l a=tJ l a:=rfl;rw[hrun] at iM;obtain ⟨R2,UO⟩:∃R2,tJ l a=R2:=⟨_,rfl⟩;rw[UO] at iM hr2;have mX:=aA iM;have iP:=aA hr2;clear iM Mt hr2 UO yU hrun;go_wp2_with fail;refine mX.out.mono ?_;rintro e w2 ⟨hg2,x,rfl,hex,hx2⟩;clear mX
    cases R2 with
    | none =>
     have mG:Hid (r=none):=aA iP.out;obtain ⟨a2,ha2,hr2⟩:=hx2;have sW:=kG.out.read lK.out (by decide) HP.out hr2 hg2;obtain ⟨V2,hV2⟩:∃V,w2.alloc (.cells #[.int .i64 0,.int .i64 0,.int .i64 0,.int .u32 0] 87)=V:=⟨_,rfl⟩;have r2:dI 87 w2.heap.size #[.int .i64 0,.int .i64 0,.int .i64 0,.int .u32 0] V2:=by rw[←hV2];exact dI.new _ _ _
     obtain ⟨Y2,lM⟩:∃V,V2.setRow w2.heap.size (fC x).toArray=V:=⟨_,rfl⟩;have r3:dI 87 w2.heap.size (fC x).toArray Y2:=by rw[←lM];exact r2.row _
     have hb2:Below w2.heap.size w2 Y2:=by rw[←lM,←hV2];exact Below.row ((aJ _ _).alloc (aB _) _) (aB _) _
     have lL:=sW.up lK.out hb2;have vJ:=lK.out x _ _ hex (fun u _ _ _=>Rows.of_below hb2);have oM:=aA hV2;have zI:=aA lM;have GD:=aA r2;have UK:=aA (show Y2.rangeAt w2.heap.size 0 (fC x) from fun j u hj=>by rw[aD _ _ _ _ _ _ r3,bE];simpa using hj);have tC:(fC x).length=4:=(by rfl);have vQ:=aA (show (prog.info? 87).map (·.size)=some (fC x).toArray.size by rw[aL,tC];kernel_rfl);have nT:=aA (show (prog.info? 87).map (·.size)=some (fC x).length by rw[tC];kernel_rfl);have IL:=aA (show 4=(fC x).toArray.size by rw[aL,tC]);have IK:Hid ((fC x).toArray.all (·.oneCell')=true):=aA (by rw[List.all_toArray,bU];exact fun u hu=>uR x u hu);clear hV2 lM r2 r3 hb2 sW tC;obtain ⟨d0,d1,e1⟩:=lL.facts;obtain ⟨g0,g1,_⟩:=lL.rd.facts;have HF:=aA (Pk.fV p true true Y2 g0 g1);have jD:=aA (lL.strike lK.out (by decide) HP.out jA.out);have jZ:Hid (OZ (fun z:gB=>z) 87 4 fC (fun (z:gB) (_:World)=>mN z) o c l p r w (.returned (.slice none 0 0)) (Y2.setCell ⟨w.heap.size+1,0,none⟩ (.slice none 0 0))):=aA ⟨jD.out.grow,fun _=>⟨rfl,a2,ha2,jD.out.rd⟩,fun zs a h=>by rw[mG.out] at h;cases h⟩;clear hr2 hg2 lL kG iP mG c0 c1 f1 g0 g1;go_wp2_with (first|(rw[oM.out])|(rw[zI.out])|(refine dG rfl 87 (.tmp 7) (.tmp 16) rfl w2.heap.size _ _ (fC x).toArray rfl rfl GD.out vQ.out IL.out IK.out ?_))
     refine HF.out.mono ?_;rintro e w3 ⟨rfl,rfl⟩;simp only[Pk.fl,if_true];go_wp2_with fail;refine leaves_cons (f:=112) (args:=#[.pointer (some ⟨w.heap.size,0,none⟩),.pointer (some ⟨w.heap.size+1,0,none⟩)]) (by simp) (by simp[go_sem]) ?_;refine (tP ⟨w.heap.size,0,none⟩ ⟨w.heap.size+1,0,none⟩ _).mono ?_;rintro e u' w'' ⟨rfl,rfl,rfl⟩;obtain ⟨_,dr,_⟩:=jD.out.facts;simp only[Leaves,settle];refine ⟨_,(by simp[results,results81,go_sem,dr];rfl),?_⟩;exact jZ.out
    | some q2 =>
     obtain ⟨kx,jj⟩:=q2;obtain ⟨Nf,IJ,hr2⟩:=hx2;have sW:=kG.out.read lK.out (by decide) HP.out hr2 hg2;obtain ⟨V2,hV2⟩:∃V,w2.alloc (.cells #[.int .i64 0,.int .i64 0,.int .i64 0,.int .u32 0] 87)=V:=⟨_,rfl⟩;have r2:dI 87 w2.heap.size #[.int .i64 0,.int .i64 0,.int .i64 0,.int .u32 0] V2:=by rw[←hV2];exact dI.new _ _ _
     obtain ⟨Y2,lM⟩:∃V,V2.setRow w2.heap.size (fC x).toArray=V:=⟨_,rfl⟩;have r3:dI 87 w2.heap.size (fC x).toArray Y2:=by rw[←lM];exact r2.row _
     have hb2:Below w2.heap.size w2 Y2:=by rw[←lM,←hV2];exact Below.row ((aJ _ _).alloc (aB _) _) (aB _) _
     have lL:=sW.up lK.out hb2;have vJ:=lK.out x _ _ hex (fun u _ _ _=>Rows.of_below hb2);have oM:=aA hV2;have zI:=aA lM;have GD:=aA r2;have UK:=aA (show Y2.rangeAt w2.heap.size 0 (fC x) from fun j u hj=>by rw[aD _ _ _ _ _ _ r3,bE];simpa using hj);have tC:(fC x).length=4:=(by rfl);have vQ:=aA (show (prog.info? 87).map (·.size)=some (fC x).toArray.size by rw[aL,tC];kernel_rfl);have nT:=aA (show (prog.info? 87).map (·.size)=some (fC x).length by rw[tC];kernel_rfl);have IL:=aA (show 4=(fC x).toArray.size by rw[aL,tC]);have IK:Hid ((fC x).toArray.all (·.oneCell')=true):=aA (by rw[List.all_toArray,bU];exact fun u hu=>uR x u hu);clear hV2 lM r2 r3 hb2 sW tC;obtain ⟨g0,g1,_⟩:=lL.rd.facts;have HF:=aA (Pk.fV p true false Y2 g0 g1);obtain ⟨ov,cv,MW,_,_⟩:=lL.own.form (fun z _=>rfl);subst MW;obtain ⟨d0,d1,e1⟩:=lL.facts;have Yx:=aA Nf;have HJL:=aA IJ;obtain ⟨V3,oG⟩:∃V,Y2.alloc (.cells (fC x).toArray 87)=V:=⟨_,rfl⟩;have hb3:Below Y2.heap.size Y2 V3:=by rw[←oG];exact (aJ _ _).alloc (aB _) _
     have OJ:=aA (lL.up lK.out hb3);have HEA:=aA (lK.out x _ _ vJ (fun u _ _ _=>Rows.of_below hb3));have mG:=aA (show V3.heap[Y2.heap.size]?=some (.cells (fC x).toArray 87 (0,0)) by rw[←oG];exact aG _ _);have Hm:Hid ((fC x).toArray.size=4):=aA (by rw[aL];exact (by rfl));have GV:=aA oG;have UH:Hid (w.heap.size+2≤V3.heap.size):=aA OJ.out.lt;clear hr2 hg2 lL kG c0 c1 f1 g0 g1 hex vJ Nf IJ oG hb3;go_wp2_with (first|(rw[oM.out])|(rw[zI.out])|(refine dG rfl 87 (.tmp 7) (.tmp 16) rfl w2.heap.size _ _ (fC x).toArray rfl rfl GD.out vQ.out IL.out IK.out ?_))
     refine HF.out.mono ?_;rintro e w3 ⟨rfl,rfl⟩;simp only[Pk.fl,if_true,bD,if_false];clear HF;go_wp2_with (first|(rw[GV.out])|(with_reducible refine dQ (some 21) rfl ?_;refine aA ?_;refine wpList_load_mid rfl 87 (.tmp 7) rfl w2.heap.size 0 rfl (fC x) _ UK.out cR rfl nT.out ?_)|(with_reducible refine dQ (some 22) rfl ?_;refine aA ?_;refine jC wC (by omega) rfl (.tmp 21) 71 rfl cV (fC x).toArray rfl Hm.out ?_)|(at_builtin;refine pD wC rfl (.tmp 20) (.tmp 22) 71 rfl cV (w.heap.size+2) (.slice ov zs.length cv) zs [x] rfl UH.out OJ.out.own (some ⟨Y2.heap.size,0,none⟩) 1 rfl (fun h=>by cases h) (kE mG.out) (fun z hz=>by simp at hz;subst hz;have:=Hm.out;rwa [aL] at this) (fun z _=>uR z) (by have:=Hg.out;have:=HNM.out;simp;omega) ?_))
     intro v' w4 vP hg4;refine aA ?_;obtain ⟨oX,NF⟩:=OJ.out.app lK.out (by decide) HP.out jA.out vP hg4 (fun z hz=>by
      rcases bS.1 hz with hz|hz
      ·exact OJ.out.el z hz
      ·simp at hz
       subst hz;exact HEA.out)
     have s0:w4.cell? ⟨w.heap.size+1,0,none⟩=some (.slice ov zs.length cv):=(aD _ _ 0 _ _ _ oX).trans rfl;have s1:w4.frozen? ⟨w.heap.size+1,0,none⟩=false:=dJ oX;obtain ⟨ow,cw,tB,_,_⟩:=vP.form (fun z _=>rfl);subst tB;have Rk:=aA NF;clear vP hg4 oX NF d0 d1 e1;obtain ⟨ml,jH⟩:∃ml,(zs++[x]).length=ml:=⟨_,rfl⟩;rw[jH] at Rk ⊢;clear jH;go_wp2_with fail;go_roundg (n-(i+1))
     case measure=>omega
     case rel =>
      refine ⟨i+1,jj,_,zs++[x],rfl,by omega,by go_num,HJL.out,by simp[Hg.out],?_,Rk.out⟩;rw[iP.out]
      (try dsimp only)
      rw[←Yx.out]
      cases fE tJ (n-(i+1)) l jj with
      | none=>rfl
      | some q=>simp
   ·have t1:¬ (i:Int)<(n:Int):=by omega
    have oN:Hid (r=some (zs.map (fun z:gB=>z),a)):=aA (by
     have:=yU.out;rw[show n-i=0 by omega] at this;rw[this];simp[fE])
    obtain ⟨ov,cv,MW,_,_⟩:=kG.out.own.form (fun z _=>rfl);subst MW;have lJ:=(kG.out.app lK.out (by decide) HP.out jA.out kG.out.own (cG _ _) kG.out.el).2;have jD:=aA lJ;have jZ:Hid (OZ (fun z:gB=>z) 87 4 fC (fun (z:gB) (_:World)=>mN z) o c l p r w (.returned (.slice ov zs.length cv)) (wr.setCell ⟨w.heap.size+1,0,none⟩ (.slice ov zs.length cv))):=aA ⟨lJ.grow,(fun h=>by rw[oN.out] at h;cases h),fun ks' a' h=>by rw[oN.out] at h;cases h;exact ⟨⟨_,zs,rfl,lJ.own.base (by omega),lJ.el,rfl⟩,Od,lJ.rd⟩⟩;clear yU kG lJ oN;go_wp2_with fail;refine leaves_cons (f:=112) (args:=#[.pointer (some ⟨w.heap.size,0,none⟩),.pointer (some ⟨w.heap.size+1,0,none⟩)]) (by simp) (by simp[go_sem]) ?_;refine (tP ⟨w.heap.size,0,none⟩ ⟨w.heap.size+1,0,none⟩ _).mono ?_;rintro e u' w'' ⟨rfl,rfl,rfl⟩;obtain ⟨_,dr,_⟩:=jD.out.facts;simp only[Leaves,settle];refine ⟨_,(by simp[results,results81,go_sem,dr];rfl),?_⟩;exact jZ.out
end Fx
namespace Fx
open Go Go.RowKit
open Pk (PR fW)
theorem lO {t:TypeId}{b:Nat}:∀ (vs A M B:List Value) (w:World),M.length=vs.length→w.heap[b]?=some (.cells (A++M++B).toArray t (0,0))→(w.setCells b A.length vs).heap[b]?=some (.cells (A++vs++B).toArray t (0,0))
 | [],A,M,B,w,hl,h=>by
  have : M=[]:=List.length_eq_zero_iff.1 hl;subst this;exact h
 | v::vs,A,M,B,w,hl,h=>by
  cases M with
  | nil=>simp at hl
  | cons m M =>
   rw[World.setCells];have h1:(w.setCell ⟨b,A.length,none⟩ v).heap[b]?=some (.cells ((A++[v])++M++B).toArray t (0,0)):=by
    rw[aM _ _ A.length _ _ v h];simp[List.set_append]
   have:=lO vs (A++[v]) M B _ (by simpa using hl) h1;rw[aI] at this
   simpa using this
theorem lQ {b k:Nat}(hk:k≠b):∀ (vs:List Value) (o:Nat) (w:World),(w.setCells b o vs).heap[k]?=w.heap[k]?
 | [],_,_=>rfl
 | v::vs,o,w=>by rw[World.setCells,lQ hk vs (o+1),aK _ _ _ _ (by exact hk)]
theorem OZ.use {α κ:Type}{key:α→κ}{t:TypeId}{n:Nat}{f:α→List Value}{El:α→World→Prop}{o:Option Addr}{c:Nat}{l:List Nat}{p:Nat}{r:Option (List κ×Nat)}{w:World}{e:Ending}{w':World}(h:OZ key t n f El o c l p r w e w') :
  w.grownBy w' (some p)∧∃v zs b lo,e=.returned v∧fK t n f w' w.heap.size v zs∧(∀z∈zs,El z w')∧PR o c l p b lo w'∧b≤l.length∧r=opt lo (zs.map key,b):=by
 refine ⟨h.grow,?_⟩
 cases hr:r with
 | none =>
  obtain ⟨he,b,hb,hp⟩:=h.no hr;exact ⟨_,[],b,true,he,fK.nil _ _ _ _ _,fun z hz=>by simp at hz,hp,hb,rfl⟩
 | some q =>
  obtain ⟨ks,b⟩:=q;obtain ⟨⟨v,zs,he,ho,hz,hk⟩,hb,hp⟩:=h.yes ks b hr;exact ⟨v,zs,b,false,he,ho,hz,hp,hb,by rw[hk];rfl⟩
def nK (id:Int)(m:List Int)(v1 v2:Value):List Value:=.int .i64 id::(m.map encI++[v1,v2])
structure He (o:Option Addr)(c:Nat)(l:List Nat)(p b:Nat)(lo:Bool)(id:Int)(m:List Int)(v1 v2:Value)(w W:World):Prop where
 res:W.heap[w.heap.size]?=some (.cells #[.int .i64 0,.int .i64 0,.int .i64 0,.int .i64 0,.int .i64 0,.int .i64 0,.int .i64 0,.int .i64 0,.int .i64 0,.int .i64 0,.int .i64 0,.int .i64 0,.int .i64 0,.int .i64 0,.int .i64 0,.int .i64 0,.int .i64 0,.slice none 0 0,.slice none 0 0] 73 (0,0))
 box:W.heap[w.heap.size+1]?=some (.cells (nK id m v1 v2).toArray 73 (0,0))
 rd:PR o c l p b lo W
 le:b≤l.length
 grow:w.grownBy W (some p)
theorem He.step {o:Option Addr}{c:Nat}{l:List Nat}{p b b2:Nat}{lo lo2:Bool}{id:Int}{m:List Int}{v1 v2:Value}{w W X:World}(hp:p<w.heap.size)(i:He o c l p b lo id m v1 v2 w W)(hg:W.grownBy X (some p))(hr:PR o c l p b2 lo2 X)(hl:b2≤l.length):He o c l p b2 lo2 id m v1 v2 w X:=by
 have keep:∀ {g:Nat} {ob:Obj},g≠p→W.heap[g]?=some ob→X.heap[g]?=some ob:=fun hne h=>by
  rw[hg.block _ (aC.1 h).1 (fun e=>hne (bK e))];exact h
 exact ⟨keep (by omega) i.res,keep (by omega) i.box,hr,hl,i.grow.trans hg⟩
theorem He.put {o:Option Addr}{c:Nat}{l:List Nat}{p b:Nat}{lo:Bool}{id id2:Int}{m m2:List Int}{v1 v2 u1 u2:Value}{w W X:World}(hp:p<w.heap.size)(iE:∀b off,o=some ⟨b,off,none⟩→0<l.length→b<w.heap.size)(i:He o c l p b lo id m v1 v2 w W)(hb:Below w.heap.size W X)
  (hres:X.heap[w.heap.size]?=W.heap[w.heap.size]?) (EM:X.heap[w.heap.size+1]?=some (.cells (nK id2 m2 u1 u2).toArray 73 (0,0))):He o c l p b lo id2 m2 u1 u2 w X :=
 ⟨hres.trans i.res,EM,qM i.rd hp iE hb,i.le,gW i.grow hb⟩
theorem He.cell {o:Option Addr}{c:Nat}{l:List Nat}{p b:Nat}{lo:Bool}{id:Int}{m:List Int}{v1 v2:Value}{w W:World}(i:He o c l p b lo id m v1 v2 w W){j:Nat}{u:Value}(h:(nK id m v1 v2)[j]?=some u):W.cell? ⟨w.heap.size+1,j,none⟩=some u∧W.frozen? ⟨w.heap.size+1,j,none⟩=false :=
 ⟨by rw[aD _ _ _ _ _ _ i.box];simpa using h,dJ i.box⟩
theorem He.set {o:Option Addr}{c:Nat}{l:List Nat}{p b:Nat}{lo:Bool}{id id2:Int}{m m2:List Int}{v1 v2 u1 u2:Value}{w W:World}{j:Nat}{u:Value}(hp:p<w.heap.size)(iE:∀b off,o=some ⟨b,off,none⟩→0<l.length→b<w.heap.size)(i:He o c l p b lo id m v1 v2 w W)
  (h:(nK id m v1 v2).toArray.setIfInBounds j u=(nK id2 m2 u1 u2).toArray):He o c l p b lo id2 m2 u1 u2 w (W.setCell ⟨w.heap.size+1,j,none⟩ u):=by
 have hb:Below w.heap.size W (W.setCell ⟨w.heap.size+1,j,none⟩ u):=Below.setCell (p:=⟨w.heap.size+1,j,none⟩) ⟨rfl,rfl,rfl,aB _,fun _ _=>rfl⟩ (by show _≤w.heap.size+1;omega) _;refine i.put hp iE hb (aK _ _ _ _ (by show w.heap.size≠w.heap.size+1;omega)) ?_;rw[aM _ _ j _ _ u i.box,h]
def PObj (B p a:Nat)(lost:Bool)(o:Option Addr)(c:Nat)(l:List Nat)(w:World):Ending→World→Prop:=mD oC eX (gV B) (fun x=>.agg (dP x).toArray) o c l p a lost w
theorem Du (B:Nat)(o:Option Addr)(c:Nat)(l:List Nat)(p a:Nat)(lost:Bool)(w:World)(hB:B≤w.heap.size)(k:fW l a)(h:PR o c l p a lost w)(iE:∀b off,o=some ⟨b,off,none⟩→0<l.length→b<w.heap.size) :
  Calls prog 43 #[.pointer (some ⟨p,0,none⟩)] w (PObj B p a lost o c l w):=by
 obtain ⟨V0,jR⟩:∃V,(w.alloc (.cells #[.int .i64 0,.int .i64 0,.int .i64 0,.int .i64 0,.int .i64 0,.int .i64 0,.int .i64 0,.int .i64 0,.int .i64 0,.int .i64 0,.int .i64 0,.int .i64 0,.int .i64 0,.int .i64 0,.int .i64 0,.int .i64 0,.int .i64 0,.slice none 0 0,.slice none 0 0] 73)).alloc (.cells #[.int .i64 0,.int .i64 0,.int .i64 0,.int .i64 0,.int .i64 0,.int .i64 0,.int .i64 0,.int .i64 0,.int .i64 0,.int .i64 0,.int .i64 0,.int .i64 0,.int .i64 0,.int .i64 0,.int .i64 0,.int .i64 0,.int .i64 0,.slice none 0 0,.slice none 0 0] 73)=V:=⟨_,rfl⟩;have hb0:Below w.heap.size w V0:=by rw[←jR];exact ((aJ _ _).alloc (aB _) _).alloc (by simp) _
 have h0:He o c l p a lost 0 dZ (.slice none 0 0) (.slice none 0 0) w V0:=by
  refine ⟨?_,?_,h.below hb0,k.at',Pk.below_grown hb0 (some p)⟩
  ·rw[←jR];exact dM (aG _ _)
  ·rw[←jR]
   have:=aG (w.alloc (.cells #[.int .i64 0,.int .i64 0,.int .i64 0,.int .i64 0,.int .i64 0,.int .i64 0,.int .i64 0,.int .i64 0,.int .i64 0,.int .i64 0,.int .i64 0,.int .i64 0,.int .i64 0,.int .i64 0,.int .i64 0,.int .i64 0,.int .i64 0,.slice none 0 0,.slice none 0 0] 73)) (.cells #[.int .i64 0,.int .i64 0,.int .i64 0,.int .i64 0,.int .i64 0,.int .i64 0,.int .i64 0,.int .i64 0,.int .i64 0,.int .i64 0,.int .i64 0,.int .i64 0,.int .i64 0,.int .i64 0,.int .i64 0,.int .i64 0,.int .i64 0,.slice none 0 0,.slice none 0 0] 73);rw[aR] at this;exact this
 have H0:=aA h0;have HK:=aA k;have qR:=aA h.lt;have jA:=aA iE;have zK:=aA hB;have oJ:=aA jR;have yT:=aA (sI 65535 (by omega) o c l p a lost V0 k h0.rd);clear h hb0 k jR iE h0 hB;go_enter func43,ntmps43;go_wp2_with (rw[oJ.out])
 refine yT.out.mono ?_;rintro e w1 h1;obtain ⟨hg1,x1,a1,lo1,rfl,oF,qP,zV,hr1⟩:=h1.use;have zQ:=H0.out.step qR.out hg1 qP zV;obtain ⟨q0,f0⟩:=zQ.cell (j:=0) rfl;have tX:=zQ.set (j:=0) (u:=.int .i64 x1) (id2:=x1) (m2:=dZ) (u1:=.slice none 0 0) (u2:=.slice none 0 0) qR.out jA.out rfl;obtain ⟨Y1,sZ⟩:∃V,w1.setCell ⟨w.heap.size+1,0,none⟩ (.int .i64 x1)=V:=⟨_,rfl⟩;rw[sZ] at tX;have H2:=aA tX;have OH:=aA oF;have qQ:=aA hr1;have UF:=aA sZ;have pM:∀b off,o=some ⟨b,off,none⟩→0<l.length→b<Y1.heap.size:=fun b off e hm=>aP (jA.out b off e hm) tX.grow.size
 have HM:=aA (JO o c l p a1 lo1 Y1 (iH HK.out zV) tX.rd pM);clear h1 hg1 oF qP zV hr1 zQ tX sZ pM yT H0 oJ;go_wp2_with (rw[UF.out])
 clear UF q0 f0;refine HM.out.mono ?_;rintro e w2 h2;obtain ⟨hg2,zs,a2,lo2,rfl,nS,rH,hl2,hr2⟩:=mD.use h2;have yI:=H2.out.step qR.out hg2 rH hl2;have oV:w2.there (w.heap.size+1) 1 (mC zs).size:=fun j hj=>by
  rw[eV,nS.1] at hj;refine ⟨?_,dJ yI.box⟩;rw[aD _ _ _ _ _ _ yI.box];simp[nK,dZ];omega
 obtain ⟨Y2,lM⟩:∃V,w2.setCells (w.heap.size+1) 1 (mC zs).toList=V:=⟨_,rfl⟩;have MX:He o c l p a2 lo2 x1 zs (.slice none 0 0) (.slice none 0 0) w Y2:=by
  have EN:Below w.heap.size w2 Y2:=by rw[←lM];exact lG (by omega) _ _ ⟨rfl,rfl,rfl,aB _,fun _ _=>rfl⟩
  refine yI.put qR.out jA.out EN ?_ ?_
  ·rw[←lM]
   exact lQ (by omega) _ _ _
  ·have:=lO (mC zs).toList [.int .i64 x1] (dZ.map encI) [.slice none 0 0,.slice none 0 0] w2 (by simp[mC,dZ,nS.1]) (by exact yI.box)
   rw[←lM];rw[show ([Value.int .i64 x1]:List Value).length=1 from rfl] at this;rw[this];simp[nK,mC]
 have nT:=aA (show (prog.info? 25).map (·.size)=some (mC zs).size by rw[eV,nS.1];kernel_rfl);have Sx:=aA oV;have H4:=aA MX;have wT:=aA nS;have iP:=aA hr2;have zI:=aA lM;have pM:∀b off,o=some ⟨b,off,none⟩→0<l.length→b<Y2.heap.size:=fun b off e hm=>aP (jA.out b off e hm) MX.grow.size
 have HMV:=aA (Ut 0 o c l p a2 lo2 Y2 (cK _) (iH HK.out hl2) MX.rd pM);clear h2 hg2 nS rH hl2 hr2 yI MX oV lM pM HM H2;go_wp2_with (first|(rw[zI.out])|(refine wpList_store_mid rfl 25 (.tmp 9) (.tmp 8) rfl (w.heap.size+1) 1 (mC zs) rfl rfl Sx.out nT.out (iV _) ?_))
 clear zI Sx;refine HMV.out.mono ?_;rintro e w3 h3;obtain ⟨hg3,v3,vs,a3,lo3,rfl,ho3,he3,xX,BI,hr3⟩:=h3.use;obtain ⟨o3,c3,rfl,SY,Mz⟩:=ho3.form (fun z hz=>by rw[aT];exact (he3 z hz).len);have ht5:=H4.out.step qR.out hg3 xX BI;obtain ⟨q17,f17⟩:=ht5.cell (j:=17) (u:=.slice none 0 0) (by simp[nK,wT.out.1]);have ht6:=ht5.set (j:=17) (u:=.slice o3 vs.length c3) (id2:=x1) (m2:=zs) (u1:=.slice o3 vs.length c3) (u2:=.slice none 0 0) qR.out jA.out (by simp[nK,List.set_append,wT.out.1]);obtain ⟨Y3,NQ⟩:∃V,w3.setCell ⟨w.heap.size+1,17,none⟩ (.slice o3 vs.length c3)=V:=⟨_,rfl⟩;rw[NQ] at ht6;have HLI3:=aA (show iX 85 3 (List.map encI) Y3 w.heap.size o3 vs by rw[←NQ];exact (Mz.rows (Rows.lT ht5.box (by decide))).base (H4.out.grow.size));have H6:=aA ht6;have HE3:=aA he3;have qT:=aA SY;have xZ:=aA hr3;have Yi:=aA NQ;have pM:∀b off,o=some ⟨b,off,none⟩→0<l.length→b<Y3.heap.size:=fun b off e hm=>aP (jA.out b off e hm) ht6.grow.size
 have HMT:=aA (Uu 0 o c l p a3 lo3 Y3 (cK _) (iH HK.out BI) ht6.rd pM);clear h3 hg3 ho3 he3 xX BI hr3 SY Mz ht5 ht6 NQ pM HMV H4;go_wp2_with (rw[Yi.out])
 clear Yi q17 f17;refine HMT.out.mono ?_;rintro e w4 h4;obtain ⟨hg4,v4,ts,a4,Ad,rfl,vP,Wj,NC,hl4,hr4⟩:=h4.use;obtain ⟨o4,c4,rfl,jl,My⟩:=vP.form (fun z _=>rfl);have ht7:=H6.out.step qR.out hg4 NC hl4;obtain ⟨q18,f18⟩:=ht7.cell (j:=18) (u:=.slice none 0 0) (by simp[nK,wT.out.1]);have ht8:=ht7.set (j:=18) (u:=.slice o4 ts.length c4) (id2:=x1) (m2:=zs) (u1:=.slice o3 vs.length c3) (u2:=.slice o4 ts.length c4) qR.out jA.out (by simp[nK,List.set_append,wT.out.1]);obtain ⟨Y4,xN⟩:∃V,w4.setCell ⟨w.heap.size+1,18,none⟩ (.slice o4 ts.length c4)=V:=⟨_,rfl⟩;rw[xN] at ht8;obtain ⟨x,hx⟩:∃x:eE,(⟨x1,zs,o3,vs,c3,o4,ts,c4⟩:eE)=x:=⟨_,rfl⟩;have Rv:nK x1 zs (.slice o3 vs.length c3) (.slice o4 ts.length c4)=dP x:=by rw[←hx];rfl
 have Nz:=ht8.box;rw[Rv] at Nz;obtain ⟨Y5,hY5⟩:∃V,Y4.setRow w.heap.size (dP x).toArray=V:=⟨_,rfl⟩;have Fe:gV B x Y5:=by
  have r1:∀ {t:TypeId},t≠73→t≠144→Rows t Y3 w4:=fun h1 h2=>Rows.iL hg4 (fun k hk=>by cases hk;exact ⟨_,H6.out.rd.row⟩) h2
  have r2:∀ {t:TypeId},t≠73→Rows t w4 Y4:=fun h1=>by rw[←xN];exact Rows.lT ht7.box h1
  have r3:∀ {t:TypeId},t≠73→Rows t Y4 Y5:=fun h1 g cur hg=>by
   rw[←hY5,setRow_other _ _ _ _ (fun e=>by
    subst e;rw[ht8.res] at hg
    cases hg;exact h1 rfl)]
   exact hg
  have hcp3:=qT.out;rw[←hx];refine ⟨⟨kX (by omega) OH.out,wT.out.1,fun j=>?_,qT.out,jl⟩,?_,?_,HE3.out,Wj⟩
  ·show Num (zs.getD j 0)
   rw[aS]
   cases hz:zs[j]? with
   | none=>exact ⟨by simp,by simp⟩
   | some z=>exact wT.out.2 z (aX hz)
  ·exact ((HLI3.out.rows (((r1 (by decide) (by decide)).trans (r2 (by decide))).trans (r3 (by decide)))).base zK.out)
  ·exact ((My.rows ((r2 (by decide)).trans (r3 (by decide)))).base (bH zK.out H6.out.grow.size))
 have HE:Hid (PObj B p a lost o c l w (.returned (.agg (dP x).toArray)) Y5):=aA (by
  have EN:Below w.heap.size Y4 Y5:=by rw[←hY5];exact Below.row ⟨rfl,rfl,rfl,aB _,fun _ _=>rfl⟩ (aB _) _
  have hr:=fZ qQ.out (fZ iP.out (fZ xZ.out hr4));refine mD.make (x:=x) (gW ht8.grow EN) Fe (qM ht8.rd qR.out jA.out EN) hl4 ?_;rw[←hx];unfold eX oC
  simpa using hr)
 have Sz:=aA ht8.res;have Zd:=aA (show Y4.rangeAt (w.heap.size+1) 0 (dP x) from fun j u hj=>by rw[aD _ _ _ _ _ _ Nz,bE];simpa using hj);have sY:=Fe.wf;have IL:=aA (tH sY);have IK:=aA (show (prog.info? 73).map (·.size)=some (dP x).toArray.size by rw[aL];exact tH sY);have hs4:=aA (show 19=(dP x).toArray.size by rw[aL];exact (dX sY).symm);have UV:=aA xN;have HY5:=aA hY5;clear h4 hg4 vP Wj NC hl4 hr4 jl My ht7 ht8 xN hY5 Fe hx Rv Nz sY HMT H6 HLI3 HE3 qT qQ iP xZ OH wT;go_wp2_with (first|(rw[UV.out])|(with_reducible refine dQ (some 16) rfl ?_;refine aA ?_;refine wpList_load_mid rfl 73 (.tmp 3) rfl (w.heap.size+1) 0 rfl (dP x) _ Zd.out bW rfl IL.out ?_)|(refine dG rfl 73 (.tmp 2) (.tmp 16) rfl w.heap.size _ _ (dP x).toArray rfl rfl Sz.out IK.out hs4.out (uV _) ?_))
 refine aO (v:=.agg (dP x).toArray) (results_cell_row rfl _ _ w.heap.size _ (dP x).toArray _ _ rfl (setRow_heap _ _ _ _ _ _ Sz.out) bW rfl IK.out) rfl ?_;rw[HY5.out];exact HE.out
def pX (f:Int×Int×List Int)(v:Value):List Value:=.int .i64 f.1 :: .int .i64 f.2.1::(f.2.2.map encI++[v])
theorem Bb (f:Int×Int×List Int){v:Value}(h:v.oneCell'=true):(pX f v).toArray.all (·.oneCell')=true:=by
 rw[List.all_toArray,bU];intro u hu;simp only[pX,List.mem_cons,bS,List.mem_map,List.not_mem_nil,or_false] at hu
 rcases hu with rfl|rfl|⟨z,_,rfl⟩|rfl
 ·rfl
 ·rfl
 ·rfl
 ·exact h
structure Hw (o:Option Addr)(c:Nat)(l:List Nat)(p b:Nat)(lo:Bool)(f:Int×Int×List Int)(w W:World):Prop where
 res:W.heap[w.heap.size]?=some (.cells #[.int .i64 0,.int .i64 0,.int .i64 0,.int .i64 0,.int .i64 0,.int .i64 0,.int .i64 0,.int .i64 0,.int .i64 0,.int .i64 0,.int .i64 0,.int .i64 0,.int .i64 0,.int .i64 0,.int .i64 0,.int .i64 0,.int .i64 0,.int .i64 0,.slice none 0 0] 28 (0,0))
 box:W.heap[w.heap.size+1]?=some (.cells (pX f (.slice none 0 0)).toArray 28 (0,0))
 rd:PR o c l p b lo W
 le:b≤l.length
 grow:w.grownBy W (some p)
section
variable {o:Option Addr} {c:Nat} {l:List Nat} {p b b2:Nat} {lo lo2:Bool} {f f2:Int×Int×List Int} {w W X:World}
theorem Hw.step (hp:p<w.heap.size)(i:Hw o c l p b lo f w W)(hg:W.grownBy X (some p))(hr:PR o c l p b2 lo2 X)(hl:b2≤l.length):Hw o c l p b2 lo2 f w X:=by
 have keep:∀ {g:Nat} {ob:Obj},g≠p→W.heap[g]?=some ob→X.heap[g]?=some ob:=fun hne h=>by
  rw[hg.block _ (aC.1 h).1 (fun e=>hne (bK e))];exact h
 exact ⟨keep (by omega) i.res,keep (by omega) i.box,hr,hl,i.grow.trans hg⟩
theorem Hw.put (hp:p<w.heap.size)(iE:∀b off,o=some ⟨b,off,none⟩→0<l.length→b<w.heap.size)(i:Hw o c l p b lo f w W)(hb:Below w.heap.size W X)
  (hres:X.heap[w.heap.size]?=W.heap[w.heap.size]?) (EM:X.heap[w.heap.size+1]?=some (.cells (pX f2 (.slice none 0 0)).toArray 28 (0,0))):Hw o c l p b lo f2 w X :=
 ⟨hres.trans i.res,EM,qM i.rd hp iE hb,i.le,gW i.grow hb⟩
theorem Hw.cell (i:Hw o c l p b lo f w W){j:Nat}{u:Value}(h:(pX f (.slice none 0 0))[j]?=some u):W.cell? ⟨w.heap.size+1,j,none⟩=some u∧W.frozen? ⟨w.heap.size+1,j,none⟩=false :=
 ⟨by rw[aD _ _ _ _ _ _ i.box];simpa using h,dJ i.box⟩
theorem Hw.set {j:Nat}{u:Value}(hp:p<w.heap.size)(iE:∀b off,o=some ⟨b,off,none⟩→0<l.length→b<w.heap.size)(i:Hw o c l p b lo f w W)
  (h:(pX f (.slice none 0 0)).toArray.setIfInBounds j u=(pX f2 (.slice none 0 0)).toArray):Hw o c l p b lo f2 w (W.setCell ⟨w.heap.size+1,j,none⟩ u):=by
 have hb:Below w.heap.size W (W.setCell ⟨w.heap.size+1,j,none⟩ u):=Below.setCell (p:=⟨w.heap.size+1,j,none⟩) ⟨rfl,rfl,rfl,aB _,fun _ _=>rfl⟩ (by show _≤w.heap.size+1;omega) _;refine i.put hp iE hb (aK _ _ _ _ (by show w.heap.size≠w.heap.size+1;omega)) ?_;rw[aM _ _ j _ _ u i.box,h]
end
def Pq (f:Int×Int×List Int):Prop:=(0≤f.1∧f.1≤64)∧(0≤f.2.1∧f.2.1≤64)∧xS 16 f.2.2
def PFr (p a:Nat)(lost:Bool)(o:Option Addr)(c:Nat)(l:List Nat)(w:World):Ending→World→Prop:=mD yE (fun f:Int×Int×List Int=>f) (fun f _=>Pq f) (fun f=>.agg (pX f (.slice none 0 0)).toArray) o c l p a lost w
theorem Dv (o:Option Addr)(c:Nat)(l:List Nat)(p a:Nat)(lost:Bool)(w:World)(k:fW l a)(h:PR o c l p a lost w)(iE:∀b off,o=some ⟨b,off,none⟩→0<l.length→b<w.heap.size) :
  Calls prog 41 #[.pointer (some ⟨p,0,none⟩)] w (PFr p a lost o c l w):=by
 obtain ⟨V0,jR⟩:∃V,(w.alloc (.cells #[.int .i64 0,.int .i64 0,.int .i64 0,.int .i64 0,.int .i64 0,.int .i64 0,.int .i64 0,.int .i64 0,.int .i64 0,.int .i64 0,.int .i64 0,.int .i64 0,.int .i64 0,.int .i64 0,.int .i64 0,.int .i64 0,.int .i64 0,.int .i64 0,.slice none 0 0] 28)).alloc (.cells #[.int .i64 0,.int .i64 0,.int .i64 0,.int .i64 0,.int .i64 0,.int .i64 0,.int .i64 0,.int .i64 0,.int .i64 0,.int .i64 0,.int .i64 0,.int .i64 0,.int .i64 0,.int .i64 0,.int .i64 0,.int .i64 0,.int .i64 0,.int .i64 0,.slice none 0 0] 28)=V:=⟨_,rfl⟩;have hb0:Below w.heap.size w V0:=by rw[←jR];exact ((aJ _ _).alloc (aB _) _).alloc (by simp) _
 have h0:Hw o c l p a lost (0,0,dZ) w V0:=by
  refine ⟨?_,?_,h.below hb0,k.at',Pk.below_grown hb0 (some p)⟩
  ·rw[←jR];exact dM (aG _ _)
  ·rw[←jR]
   have:=aG (w.alloc (.cells #[.int .i64 0,.int .i64 0,.int .i64 0,.int .i64 0,.int .i64 0,.int .i64 0,.int .i64 0,.int .i64 0,.int .i64 0,.int .i64 0,.int .i64 0,.int .i64 0,.int .i64 0,.int .i64 0,.int .i64 0,.int .i64 0,.int .i64 0,.int .i64 0,.slice none 0 0] 28)) (.cells #[.int .i64 0,.int .i64 0,.int .i64 0,.int .i64 0,.int .i64 0,.int .i64 0,.int .i64 0,.int .i64 0,.int .i64 0,.int .i64 0,.int .i64 0,.int .i64 0,.int .i64 0,.int .i64 0,.int .i64 0,.int .i64 0,.int .i64 0,.int .i64 0,.slice none 0 0] 28);rw[aR] at this;exact this
 have H0:=aA h0;have HK:=aA k;have qR:=aA h.lt;have jA:=aA iE;have oJ:=aA jR;have yT:=aA (sI 64 (by omega) o c l p a lost V0 k h0.rd);clear h hb0 k jR iE h0;go_enter func41,ntmps41;go_wp2_with (rw[oJ.out])
 refine yT.out.mono ?_;rintro e w1 h1;obtain ⟨hg1,x1,a1,lo1,rfl,oF,qP,zV,hr1⟩:=h1.use;have zQ:=H0.out.step qR.out hg1 qP zV;obtain ⟨q0,f0⟩:=zQ.cell (j:=0) rfl;have tX:=zQ.set (j:=0) (u:=.int .i64 x1) (f2:=(x1,0,dZ)) qR.out jA.out rfl;obtain ⟨Y1,sZ⟩:∃V,w1.setCell ⟨w.heap.size+1,0,none⟩ (.int .i64 x1)=V:=⟨_,rfl⟩;rw[sZ] at tX;have H2:=aA tX;have OH:=aA oF;have qQ:=aA hr1;have UF:=aA sZ;have Cp:=aA (sI 64 (by omega) o c l p a1 lo1 Y1 (iH HK.out zV) tX.rd);clear h1 hg1 oF qP zV hr1 zQ tX sZ yT H0 oJ;go_wp2_with (rw[UF.out])
 clear UF q0 f0;refine Cp.out.mono ?_;rintro e w2 h2;obtain ⟨hg2,x2,a2,lo2,rfl,nS,rH,hl2,hr2⟩:=h2.use;have zQ:=H2.out.step qR.out hg2 rH hl2;obtain ⟨q0,f0⟩:=zQ.cell (j:=1) rfl;have tX:=zQ.set (j:=1) (u:=.int .i64 x2) (f2:=(x1,x2,dZ)) qR.out jA.out rfl;obtain ⟨Y2,lM⟩:∃V,w2.setCell ⟨w.heap.size+1,1,none⟩ (.int .i64 x2)=V:=⟨_,rfl⟩;rw[lM] at tX;have H3:=aA tX;have wT:=aA nS;have iP:=aA hr2;have zI:=aA lM;have pM:∀b off,o=some ⟨b,off,none⟩→0<l.length→b<Y2.heap.size:=fun b off e hm=>aP (jA.out b off e hm) tX.grow.size
 have HM:=aA (JO o c l p a2 lo2 Y2 (iH HK.out hl2) tX.rd pM);clear h2 hg2 nS rH hl2 hr2 zQ tX lM pM Cp H2;go_wp2_with (rw[zI.out])
 clear zI q0 f0;refine HM.out.mono ?_;rintro e w3 h3;obtain ⟨hg3,zs,a3,lo3,rfl,XC,xX,BI,hr3⟩:=mD.use h3;have yI:=H3.out.step qR.out hg3 xX BI;have oV:w3.there (w.heap.size+1) 2 (mC zs).size:=fun j hj=>by
  rw[eV,XC.1] at hj;refine ⟨?_,dJ yI.box⟩;rw[aD _ _ _ _ _ _ yI.box];simp[pX,dZ];omega
 obtain ⟨Y3,NQ⟩:∃V,w3.setCells (w.heap.size+1) 2 (mC zs).toList=V:=⟨_,rfl⟩;have MX:Hw o c l p a3 lo3 (x1,x2,zs) w Y3:=by
  have EN:Below w.heap.size w3 Y3:=by rw[←NQ];exact lG (by omega) _ _ ⟨rfl,rfl,rfl,aB _,fun _ _=>rfl⟩
  refine yI.put qR.out jA.out EN ?_ ?_
  ·rw[←NQ]
   exact lQ (by omega) _ _ _
  ·have:=lO (mC zs).toList [.int .i64 x1,.int .i64 x2] (dZ.map encI) [.slice none 0 0] w3 (by simp[mC,dZ,XC.1]) (by exact yI.box)
   rw[←NQ];rw[show ([Value.int .i64 x1,Value.int .i64 x2]:List Value).length=2 from rfl] at this;rw[this];simp[pX,mC]
 have nT:=aA (show (prog.info? 25).map (·.size)=some (mC zs).size by rw[eV,XC.1];kernel_rfl);obtain ⟨f,hf⟩:∃f:Int×Int×List Int,(x1,x2,zs)=f:=⟨_,rfl⟩;rw[hf] at MX;obtain ⟨Y4,xN⟩:∃V,Y3.setRow w.heap.size (pX f (.slice none 0 0)).toArray=V:=⟨_,rfl⟩;have OT:f.2.2.length=16:=by rw[←hf];exact XC.1
 have HE:Hid (PFr p a lost o c l w (.returned (.agg (pX f (.slice none 0 0)).toArray)) Y4):=aA (by
  have EN:Below w.heap.size Y3 Y4:=by rw[←xN];exact Below.row ⟨rfl,rfl,rfl,aB _,fun _ _=>rfl⟩ (aB _) _
  have hr:=fZ qQ.out (fZ iP.out hr3);refine mD.make (x:=f) (gW MX.grow EN) (by rw[←hf];exact ⟨OH.out,wT.out,XC⟩) (qM MX.rd qR.out jA.out EN) BI ?_;rw[←hf];exact hr)
 have Sx:=aA oV;have Sz:=aA MX.res;have Zd:=aA (show Y3.rangeAt (w.heap.size+1) 0 (pX f (.slice none 0 0)) from fun j u hj=>by rw[aD _ _ _ _ _ _ MX.box,bE];simpa using hj);have hlen:(pX f (.slice none 0 0)).length=19:=by simp[pX,OT]
 have IL:=aA (show (prog.info? 28).map (·.size)=some (pX f (.slice none 0 0)).length by rw[hlen];kernel_rfl);have IK:=aA (show (prog.info? 28).map (·.size)=some (pX f (.slice none 0 0)).toArray.size by rw[aL,hlen];kernel_rfl);have hs4:=aA (show 19=(pX f (.slice none 0 0)).toArray.size by rw[aL,hlen]);have vP:=aA (Bb f (v:=.slice none 0 0) rfl);have Yi:=aA NQ;have UV:=aA xN;clear h3 hg3 XC xX BI hr3 yI MX oV NQ xN hf OT hlen HM H3 qQ iP OH wT;go_wp2_with (first|(rw[Yi.out])|(with_reducible refine dQ (some 13) rfl ?_;refine aA ?_;refine wpList_load_mid rfl 28 (.tmp 3) rfl (w.heap.size+1) 0 rfl (pX f (.slice none 0 0)) _ Zd.out aW rfl IL.out ?_)|(refine wpList_store_mid rfl 25 (.tmp 12) (.tmp 11) rfl (w.heap.size+1) 2 (mC zs) rfl rfl Sx.out nT.out (iV _) ?_)|(refine dG rfl 28 (.tmp 2) (.tmp 13) rfl w.heap.size _ _ (pX f (.slice none 0 0)).toArray rfl rfl Sz.out IK.out hs4.out vP.out ?_))
 refine aO (v:=.agg (pX f (.slice none 0 0)).toArray) (results_cell_row rfl _ _ w.heap.size _ (pX f (.slice none 0 0)).toArray _ _ rfl (setRow_heap _ _ _ _ _ _ Sz.out) aW rfl IK.out) rfl ?_;rw[UV.out];exact HE.out
end Fx
namespace Fx
open Go Go.RowKit
open Pk (PR fW Bs)
theorem tQ (a b:Addr)(w:World) :
  CallsD prog 75 #[.pointer (some a),.pointer (some b)] .returning w fun e u' w'=>e=.returned (.tuple #[])∧u'=.returning∧w'=w:=by
 refine callsD_of_wpS func75 rfl fun c₀ cs hu=>?_
 apply wpS_seq
 apply wpS_region
 simp[wpOpsS,go_sem,recoverD,hu,ntmps75,Exit.thenS];refine wpS_cond (t:=false) (by simp[Act.eval,Array.replicate]) ?_;simp only[bD,if_false];refine wpS_of_wp (wp_skip ?_)
 cases c₀
 simp_all [bodyPostS,results,results75]
theorem Uv (B:Nat)(o:Option Addr)(c:Nat)(l:List Nat)(p dR:Nat)(lost:Bool)(w:World)(hB:B≤w.heap.size)(k:fW l dR)(h:PR o c l p dR lost w)(iE:∀b off,o=some ⟨b,off,none⟩→0<l.length→b<w.heap.size) :
  Calls prog 42 #[.pointer (some ⟨p,0,none⟩),.int .i64 16,.func (.func 43) #[] #[]] w (OZ eX 73 19 dP (gV B) o c l p (eP lost (fG 16 oC) l dR) w):=by
 have vR:OP 73 26 (gV B):=fun z W X h hR=>h.rows (hR _ (by decide) (by decide) (by decide)) (hR _ (by decide) (by decide) (by decide))
 have lK:=aA vR;have hmf:∀ (fn:Fn) (first cap:Array Value) (w:World),(Instr.makeFunc fn first cap).run prog w=.ok (.func fn first cap) w:=fun _ _ _ _=>rfl
 have hp:=h.lt;obtain ⟨W1,hW1⟩:∃W1,(w.alloc (.cells #[.pointer (some ⟨p,0,none⟩)] 90)).alloc (.cells #[.slice none 0 0] 26)=W1:=⟨_,rfl⟩;have hb1:Below w.heap.size w W1:=by rw[←hW1];exact ((aJ _ w).alloc (aB _) _).alloc (by simp) _
 have hs:=Pk.nJ o c l p dR 16 lost W1 k (by omega) (h.below hb1);have yJ:CF 73 26 19 dP (gV B) o c l p dR lost (.slice none 0 0) [] w W1:=by
  refine ⟨?_,?_,h.below hb1,fK.nil _ _ _ _ _,fun z hz=>by simp at hz,Pk.below_grown hb1 (some p)⟩
  ·rw[←hW1];exact dM (aG _ _)
  ·rw[←hW1]
   have:=aG (w.alloc (.cells #[.pointer (some ⟨p,0,none⟩)] 90)) (.cells #[.slice none 0 0] 26);rw[aR] at this;exact this
 have HS:=aA hs;have kG:=aA yJ;have HK:=aA k;have HP:=aA hp;have jA:=aA iE;have xY:=aA hW1;have HB:=aA hB;clear hs yJ h iE hb1 hW1 k hp vR hB;have oW:=kM (lost:=lost) (most:=16) (l:=l) (a:=dR);obtain ⟨R,hR⟩:∃R,Pk.rz lost (16:Int) (l.drop dR)=R:=⟨_,rfl⟩;have Oe:Pk.rz lost ((16:Nat):Int) (l.drop dR)=R:=hR;rw[hR] at HS;rw[Oe] at oW;obtain ⟨r,hr⟩:∃r,eP lost (fG 16 oC) l dR=r:=⟨_,rfl⟩;have OI:Hid (r=match R.map (fun q=>((q.1:Int),dR+q.2)) with|none=>none|some (n,b)=>fE oC n.toNat l b):=aA (by
  rw[←hr,oW];unfold eP fG
  cases lost <;> rfl)
 have Rc:Hid (∀q,R=some q→q.1≤16∧dR+q.2≤l.length):=aA (fun q hq=>by
  rw[hq] at oW;simp only[Option.map_some] at oW;unfold eP at oW
  split at oW
  ·cases oW
  ·have:=zD HK.out.at' oW.symm
   omega)
 rw[hr];clear hR Oe oW hr
 cases R with
 | none =>
  have SE:r=none:=OI.out;subst SE
  go_enter_defers func42,ntmps42
  go_wp2_with fail;rw[xY.out];refine HS.out.mono ?_;rintro e w1 ⟨rfl,hr1,hg1⟩;simp only[Pk.pR,Pk.YU,Pk.YT,Option.isNone_none] at hr1 ⊢;have sW:=kG.out.read lK.out (by decide) HP.out hr1 hg1;obtain ⟨c0,c1,f1⟩:=sW.facts;have jD:=aA (sW.strike lK.out (by decide) HP.out jA.out);have jZ:Hid (OZ eX 73 19 dP (gV B) o c l p none w (.returned (.slice none 0 0)) (w1.setCell ⟨w.heap.size+1,0,none⟩ (.slice none 0 0))):=aA ⟨jD.out.grow,fun _=>⟨rfl,dR,HK.out.at',jD.out.rd⟩,fun zs a h=>by cases h⟩;clear hr1 hg1 sW HS kG;go_wp2_with fail;go_loopg[12] 0 (fun g s12 wr=>g=0∧s12=.int .i64 0∧wr=w1)
  case atStart=>exact ⟨rfl,rfl,rfl⟩
  case round =>
   obtain ⟨_,rfl,rfl⟩:=hrel;go_wp2_with fail;refine leaves_cons (f:=75) (args:=#[.pointer (some ⟨w.heap.size,0,none⟩),.pointer (some ⟨w.heap.size+1,0,none⟩)]) (by simp) (by simp[go_sem]) ?_;refine (tQ ⟨w.heap.size,0,none⟩ ⟨w.heap.size+1,0,none⟩ _).mono ?_;rintro e u' w'' ⟨rfl,rfl,rfl⟩;obtain ⟨_,dr,_⟩:=jD.out.facts;simp only[Leaves,settle];refine ⟨_,(by simp[results,results42,go_sem,dr];rfl),?_⟩;exact jZ.out
 | some q =>
  obtain ⟨n,j⟩:=q;have zR:r=fE oC n l (dR+j):=OI.out;obtain ⟨GM,BN⟩:=Rc.out (n,j) rfl;dsimp only at GM BN;obtain ⟨iQ,wJ⟩:∃iQ,dR+j=iQ:=⟨_,rfl⟩;rw[wJ] at zR BN;have Il:=aA zR;have JE:=aA wJ;have HNM:=aA GM;have n0:(0:Int)≤(n:Int):=by omega
  have n9:(n:Int)≤16:=by omega
  clear OI Rc zR GM wJ
  go_enter_defers func42,ntmps42
  go_wp2_with fail;rw[xY.out];refine HS.out.mono ?_;rintro e w1 ⟨rfl,hr1,hg1⟩;simp only[Pk.pR,Pk.YU,Pk.YT,Option.isNone_some] at hr1 ⊢;rw[JE.out] at hr1;have PE:=aA (kG.out.read lK.out (by decide) HP.out hr1 hg1);clear hr1 hg1 HS kG;go_wp2_with fail;go_loopg[7,12] n (fun g s7 s12 wr=>∃ (i a:Nat) (v:Value) (zs:List eE),g=n-i∧i≤n∧s12=.int .i64 (i:Int)∧a≤l.length∧zs.length=i∧r=(fE oC (n-i) l a).map (fun q=>(zs.map eX++q.1,q.2))∧CF 73 26 19 dP (gV B) o c l p a false v zs w wr)
  case atStart=>exact ⟨0,iQ,_,[],rfl,by omega,rfl,BN,rfl,by rw[Il.out];(cases fE oC (n-0) l iQ <;> rfl),PE.out⟩
  case round =>
   clear PE;obtain ⟨i,a,v,zs,Fc,nT,rfl,Od,hzs,wF,yJ⟩:=hrel;subst Fc;obtain ⟨c0,c1,f1⟩:=yJ.facts;have kG:=aA yJ;have yU:=aA wF;have Hg:=aA hzs;have YL:Hid (fW l a):=aA ⟨HK.out.by',HK.out.len,Od⟩;have i00:(0:Int)≤(i:Int):=by omega
   clear yJ wF hzs;by_cases sB:i<n
   ·have t1:(i:Int)<(n:Int):=by omega
    have iM:=Du B o c l p a false wr (by have:=HB.out;have:=kG.out.lt;omega) YL.out kG.out.rd (fun b off e h=>by have:=jA.out b off e h;have:=kG.out.lt;omega);have Mt:n-i=(n-(i+1))+1:=by omega
    have hr2:=yU.out;rw[Mt,kW] at hr2;unfold PObj mD at iM;have hrun:eP false oC l a=oC l a:=rfl;rw[hrun] at iM;obtain ⟨R2,UO⟩:∃R2,oC l a=R2:=⟨_,rfl⟩;rw[UO] at iM hr2;have mX:=aA iM;have iP:=aA hr2;clear iM Mt hr2 UO yU hrun;go_wp2_with fail;refine mX.out.mono ?_;rintro e w2 ⟨hg2,x,rfl,hex,hx2⟩;clear mX
    cases R2 with
    | none =>
     have mG:Hid (r=none):=aA iP.out;obtain ⟨a2,ha2,hr2⟩:=hx2;have sW:=kG.out.read lK.out (by decide) HP.out hr2 hg2;obtain ⟨V2,hV2⟩:∃V,w2.alloc (.cells #[.int .i64 0,.int .i64 0,.int .i64 0,.int .i64 0,.int .i64 0,.int .i64 0,.int .i64 0,.int .i64 0,.int .i64 0,.int .i64 0,.int .i64 0,.int .i64 0,.int .i64 0,.int .i64 0,.int .i64 0,.int .i64 0,.int .i64 0,.slice none 0 0,.slice none 0 0] 73)=V:=⟨_,rfl⟩;have r2:dI 73 w2.heap.size #[.int .i64 0,.int .i64 0,.int .i64 0,.int .i64 0,.int .i64 0,.int .i64 0,.int .i64 0,.int .i64 0,.int .i64 0,.int .i64 0,.int .i64 0,.int .i64 0,.int .i64 0,.int .i64 0,.int .i64 0,.int .i64 0,.int .i64 0,.slice none 0 0,.slice none 0 0] V2:=by rw[←hV2];exact dI.new _ _ _
     obtain ⟨Y2,lM⟩:∃V,V2.setRow w2.heap.size (dP x).toArray=V:=⟨_,rfl⟩;have r3:dI 73 w2.heap.size (dP x).toArray Y2:=by rw[←lM];exact r2.row _
     have hb2:Below w2.heap.size w2 Y2:=by rw[←lM,←hV2];exact Below.row ((aJ _ _).alloc (aB _) _) (aB _) _
     have lL:=sW.up lK.out hb2;have vJ:=lK.out x _ _ hex (fun u _ _ _=>Rows.of_below hb2);have oM:=aA hV2;have zI:=aA lM;have GD:=aA r2;have UK:=aA (show Y2.rangeAt w2.heap.size 0 (dP x) from fun j u hj=>by rw[aD _ _ _ _ _ _ r3,bE];simpa using hj);have tC:(dP x).length=19:=(dX hex.wf);have vQ:=aA (show (prog.info? 73).map (·.size)=some (dP x).toArray.size by rw[aL,tC];kernel_rfl);have nT:=aA (show (prog.info? 73).map (·.size)=some (dP x).length by rw[tC];kernel_rfl);have IL:=aA (show 19=(dP x).toArray.size by rw[aL,tC]);have IK:Hid ((dP x).toArray.all (·.oneCell')=true):=aA (by rw[List.all_toArray,bU];exact fun u hu=>lU x u hu);clear hV2 lM r2 r3 hb2 sW tC;obtain ⟨d0,d1,e1⟩:=lL.facts;obtain ⟨g0,g1,_⟩:=lL.rd.facts;have HF:=aA (Pk.fV p true true Y2 g0 g1);have jD:=aA (lL.strike lK.out (by decide) HP.out jA.out);have jZ:Hid (OZ eX 73 19 dP (gV B) o c l p r w (.returned (.slice none 0 0)) (Y2.setCell ⟨w.heap.size+1,0,none⟩ (.slice none 0 0))):=aA ⟨jD.out.grow,fun _=>⟨rfl,a2,ha2,jD.out.rd⟩,fun zs a h=>by rw[mG.out] at h;cases h⟩;clear hr2 hg2 lL kG iP mG c0 c1 f1 g0 g1;go_wp2_with (first|(rw[oM.out])|(rw[zI.out])|(refine dG rfl 73 (.tmp 7) (.tmp 16) rfl w2.heap.size _ _ (dP x).toArray rfl rfl GD.out vQ.out IL.out IK.out ?_))
     refine HF.out.mono ?_;rintro e w3 ⟨rfl,rfl⟩;simp only[Pk.fl,if_true];go_wp2_with fail;refine leaves_cons (f:=75) (args:=#[.pointer (some ⟨w.heap.size,0,none⟩),.pointer (some ⟨w.heap.size+1,0,none⟩)]) (by simp) (by simp[go_sem]) ?_;refine (tQ ⟨w.heap.size,0,none⟩ ⟨w.heap.size+1,0,none⟩ _).mono ?_;rintro e u' w'' ⟨rfl,rfl,rfl⟩;obtain ⟨_,dr,_⟩:=jD.out.facts;simp only[Leaves,settle];refine ⟨_,(by simp[results,results42,go_sem,dr];rfl),?_⟩;exact jZ.out
    | some q2 =>
     obtain ⟨kx,jj⟩:=q2;obtain ⟨Nf,IJ,hr2⟩:=hx2;have sW:=kG.out.read lK.out (by decide) HP.out hr2 hg2;obtain ⟨V2,hV2⟩:∃V,w2.alloc (.cells #[.int .i64 0,.int .i64 0,.int .i64 0,.int .i64 0,.int .i64 0,.int .i64 0,.int .i64 0,.int .i64 0,.int .i64 0,.int .i64 0,.int .i64 0,.int .i64 0,.int .i64 0,.int .i64 0,.int .i64 0,.int .i64 0,.int .i64 0,.slice none 0 0,.slice none 0 0] 73)=V:=⟨_,rfl⟩;have r2:dI 73 w2.heap.size #[.int .i64 0,.int .i64 0,.int .i64 0,.int .i64 0,.int .i64 0,.int .i64 0,.int .i64 0,.int .i64 0,.int .i64 0,.int .i64 0,.int .i64 0,.int .i64 0,.int .i64 0,.int .i64 0,.int .i64 0,.int .i64 0,.int .i64 0,.slice none 0 0,.slice none 0 0] V2:=by rw[←hV2];exact dI.new _ _ _
     obtain ⟨Y2,lM⟩:∃V,V2.setRow w2.heap.size (dP x).toArray=V:=⟨_,rfl⟩;have r3:dI 73 w2.heap.size (dP x).toArray Y2:=by rw[←lM];exact r2.row _
     have hb2:Below w2.heap.size w2 Y2:=by rw[←lM,←hV2];exact Below.row ((aJ _ _).alloc (aB _) _) (aB _) _
     have lL:=sW.up lK.out hb2;have vJ:=lK.out x _ _ hex (fun u _ _ _=>Rows.of_below hb2);have oM:=aA hV2;have zI:=aA lM;have GD:=aA r2;have UK:=aA (show Y2.rangeAt w2.heap.size 0 (dP x) from fun j u hj=>by rw[aD _ _ _ _ _ _ r3,bE];simpa using hj);have tC:(dP x).length=19:=(dX hex.wf);have vQ:=aA (show (prog.info? 73).map (·.size)=some (dP x).toArray.size by rw[aL,tC];kernel_rfl);have nT:=aA (show (prog.info? 73).map (·.size)=some (dP x).length by rw[tC];kernel_rfl);have IL:=aA (show 19=(dP x).toArray.size by rw[aL,tC]);have IK:Hid ((dP x).toArray.all (·.oneCell')=true):=aA (by rw[List.all_toArray,bU];exact fun u hu=>lU x u hu);clear hV2 lM r2 r3 hb2 sW tC;obtain ⟨g0,g1,_⟩:=lL.rd.facts;have HF:=aA (Pk.fV p true false Y2 g0 g1);obtain ⟨ov,cv,MW,_,_⟩:=lL.own.form (fun z hz=>dX (lL.el z hz).wf);subst MW;obtain ⟨d0,d1,e1⟩:=lL.facts;have Yx:=aA Nf;have HJL:=aA IJ;obtain ⟨V3,oG⟩:∃V,Y2.alloc (.cells (dP x).toArray 73)=V:=⟨_,rfl⟩;have hb3:Below Y2.heap.size Y2 V3:=by rw[←oG];exact (aJ _ _).alloc (aB _) _
     have OJ:=aA (lL.up lK.out hb3);have HEA:=aA (lK.out x _ _ vJ (fun u _ _ _=>Rows.of_below hb3));have mG:=aA (show V3.heap[Y2.heap.size]?=some (.cells (dP x).toArray 73 (0,0)) by rw[←oG];exact aG _ _);have Hm:Hid ((dP x).toArray.size=19):=aA (by rw[aL];exact (dX vJ.wf));have GV:=aA oG;have UH:Hid (w.heap.size+2≤V3.heap.size):=aA OJ.out.lt;clear hr2 hg2 lL kG c0 c1 f1 g0 g1 hex vJ Nf IJ oG hb3;go_wp2_with (first|(rw[oM.out])|(rw[zI.out])|(refine dG rfl 73 (.tmp 7) (.tmp 16) rfl w2.heap.size _ _ (dP x).toArray rfl rfl GD.out vQ.out IL.out IK.out ?_))
     refine HF.out.mono ?_;rintro e w3 ⟨rfl,rfl⟩;simp only[Pk.fl,if_true,bD,if_false];clear HF;go_wp2_with (first|(rw[GV.out])|(with_reducible refine dQ (some 21) rfl ?_;refine aA ?_;refine wpList_load_mid rfl 73 (.tmp 7) rfl w2.heap.size 0 rfl (dP x) _ UK.out bW rfl nT.out ?_)|(with_reducible refine dQ (some 22) rfl ?_;refine aA ?_;refine jC yH (by omega) rfl (.tmp 21) 26 rfl dA (dP x).toArray rfl Hm.out ?_)|(at_builtin;refine pD yH rfl (.tmp 20) (.tmp 22) 26 rfl dA (w.heap.size+2) (.slice ov zs.length cv) zs [x] rfl UH.out OJ.out.own (some ⟨Y2.heap.size,0,none⟩) 1 rfl (fun h=>by cases h) (kE mG.out) (fun z hz=>by simp at hz;subst hz;have:=Hm.out;rwa [aL] at this) (fun z _=>lU z) (by have:=Hg.out;have:=HNM.out;simp;omega) ?_))
     intro v' w4 vP hg4;refine aA ?_;obtain ⟨oX,NF⟩:=OJ.out.app lK.out (by decide) HP.out jA.out vP hg4 (fun z hz=>by
      rcases bS.1 hz with hz|hz
      ·exact OJ.out.el z hz
      ·simp at hz
       subst hz;exact HEA.out)
     have s0:w4.cell? ⟨w.heap.size+1,0,none⟩=some (.slice ov zs.length cv):=(aD _ _ 0 _ _ _ oX).trans rfl;have s1:w4.frozen? ⟨w.heap.size+1,0,none⟩=false:=dJ oX;obtain ⟨ow,cw,tB,_,_⟩:=vP.form (fun z hz=>dX (NF.el z hz).wf);subst tB;have Rk:=aA NF;clear vP hg4 oX NF d0 d1 e1;obtain ⟨ml,jH⟩:∃ml,(zs++[x]).length=ml:=⟨_,rfl⟩;rw[jH] at Rk ⊢;clear jH;go_wp2_with fail;go_roundg (n-(i+1))
     case measure=>omega
     case rel =>
      refine ⟨i+1,jj,_,zs++[x],rfl,by omega,by go_num,HJL.out,by simp[Hg.out],?_,Rk.out⟩;rw[iP.out]
      (try dsimp only)
      rw[←Yx.out]
      cases fE oC (n-(i+1)) l jj with
      | none=>rfl
      | some q=>simp
   ·have t1:¬ (i:Int)<(n:Int):=by omega
    have oN:Hid (r=some (zs.map eX,a)):=aA (by
     have:=yU.out;rw[show n-i=0 by omega] at this;rw[this];simp[fE])
    obtain ⟨ov,cv,MW,_,_⟩:=kG.out.own.form (fun z hz=>dX (kG.out.el z hz).wf);subst MW;have lJ:=(kG.out.app lK.out (by decide) HP.out jA.out kG.out.own (cG _ _) kG.out.el).2;have jD:=aA lJ;have jZ:Hid (OZ eX 73 19 dP (gV B) o c l p r w (.returned (.slice ov zs.length cv)) (wr.setCell ⟨w.heap.size+1,0,none⟩ (.slice ov zs.length cv))):=aA ⟨lJ.grow,(fun h=>by rw[oN.out] at h;cases h),fun ks' a' h=>by rw[oN.out] at h;cases h;exact ⟨⟨_,zs,rfl,lJ.own.base (by omega),lJ.el,rfl⟩,Od,lJ.rd⟩⟩;clear yU kG lJ oN;go_wp2_with fail;refine leaves_cons (f:=75) (args:=#[.pointer (some ⟨w.heap.size,0,none⟩),.pointer (some ⟨w.heap.size+1,0,none⟩)]) (by simp) (by simp[go_sem]) ?_;refine (tQ ⟨w.heap.size,0,none⟩ ⟨w.heap.size+1,0,none⟩ _).mono ?_;rintro e u' w'' ⟨rfl,rfl,rfl⟩;obtain ⟨_,dr,_⟩:=jD.out.facts;simp only[Leaves,settle];refine ⟨_,(by simp[results,results42,go_sem,dr];rfl),?_⟩;exact jZ.out
end Fx
namespace Fx
open Go Go.RowKit Go.Lib
open Pk (Bs By PR)
theorem Py {a b:List Nat}(ha:By a)(hb:By b)(h:Pk.fR a=Pk.fR b):a=b:=by
 unfold Pk.fR at h;have h1:a.map UInt8.ofNat=b.map UInt8.ofNat:=by
  have:=congrArg (fun x:ByteArray=>x.data.toList) h
  simpa using this
 have h2:=congrArg (List.map UInt8.toNat) h1;rw[List.map_map,List.map_map] at h2;have e:∀l:List Nat,By l→l.map (UInt8.toNat ∘ UInt8.ofNat)=l:=fun l hl=>by
  conv=>rhs;rw[←List.map_id l]
  refine List.map_congr_left fun c hc=>?_
  have:=hl c hc;simp;omega
 rw[e a ha,e b hb] at h2;exact h2
theorem toList_inj {a b:ByteArray}(h:a.toList=b.toList):a=b:=by
 have h1:a.data.toList=b.data.toList:=by
  simpa[ByteArray.toList_eq] using h
 cases a
 cases b
 congr 1
 exact Array.toList_inj.1 h1
theorem TJ {a b:List Nat}(ha:By a)(hb:By b):((Pk.fR a).toList == (Pk.fR b).toList)=decide (a=b):=by
 by_cases e:a=b
 ·subst e
  simp
 ·rw[aN e,beq_eq_false_iff_ne]
  exact fun h=>e (Py ha hb (toList_inj h))
theorem Gd (a b:List Nat)(oa ob:Option Addr)(ca cb:Nat)(w:World)(ha:By a)(hb:By b)(h1:Bs w oa a)(h2:Bs w ob b) :
  Calls prog 136 #[.slice oa a.length ca,.slice ob b.length cb] w (fJ (decide (a=b)) w):=by
 have q1:=Pk.vA (W:=w) ca rfl h1;have q2:=Pk.vA (W:=w) cb rfl h2;have q3:=TJ ha hb;generalize a.length=na at q1 ⊢;generalize b.length=nb at q2 ⊢;generalize decide (a=b)=r at q3 ⊢;generalize Pk.fR a=sa at q1 q3;generalize Pk.fR b=sb at q2 q3;clear ha hb h1 h2;go_enter func136,ntmps136;go_wp2_with fail;go_ret;exact ⟨by rw[←q3];rfl,aJ _ _⟩
end Fx
namespace Fx
open Go Go.RowKit Go.Lib
open Pk (Bs By PR iO)
theorem fY {ops:Array Oper}{rest:List Oper}{o:Oper}{a:Act}{Q:Exit→Act→World→Prop}{W:World}(hgd:o.guard=none)(v:Value)(X:World)(hrun:(execOp a.eval o).run prog W=.ok (.value v) X)
  (h:wpList prog ops Q rest (a.put o.dst v) X):wpList prog ops Q (o::rest) a W:=by
 refine wpList_plain hgd fun K hK'=>?_
 unfold Oper.wp;rw[hrun];exact hK' _ _ h
theorem Oc (l m:List Nat)(o q:Option Addr)(c d:Nat)(w:World)(hl:By l)(hm:By m)(hb:Bs w o l)(hq:Bs w q m)(hc:l.length≤c∧c≤9223372036854775807)(hd:m.length≤d∧d≤9223372036854775807) :
  Calls prog 107 #[.slice o l.length c,.slice q m.length d] w (fJ (decide (l.take m.length=m)) w):=by
 by_cases hlt:l.length<m.length
 ·have e:decide (l.take m.length=m)=false:=aN (fun h=>by have:=congrArg List.length h;rw[bT] at this;omega)
  rw[e];have t1:¬ (m.length:Int)≤(l.length:Int):=by omega
  clear e hl hm hb hq hlt;generalize l.length=n at *;generalize m.length=k at *;go_enter func107,ntmps107;go_wp2_with fail;go_ret;exact ⟨rfl,aJ _ _⟩
 ·have t1:(m.length:Int)≤(l.length:Int):=by omega
  have hlen:(l.take m.length).length=m.length:=by rw[bT];omega
  have he:=Gd (l.take m.length) m o q c d w (fun x hx=>hl x (cI hx)) hm (hb.take _) hq;rw[hlen] at he;have HE:=aA he;have t2:(m.length:Int)≤(c:Int):=by omega
  have t3:(0:Int)≤(m.length:Int):=by omega
  have t4:(c:Int)≤9223372036854775807:=by omega
  have t5:m.length≤c:=by omega
  generalize decide (l.take m.length=m)=r at HE ⊢;clear he hlen hlt hl hm hb hq hc hd;generalize l.length=n at *;generalize m.length=k at *;go_enter func107,ntmps107;go_wp2_with fail;refine HE.out.mono ?_;rintro e w1 ⟨rfl,hb1⟩;have HB:=aA hb1;clear hb1 HE;go_wp2_with fail;go_ret;exact ⟨rfl,HB.out⟩
def OD (l m:List Nat)(o:Option Addr)(c:Nat)(w:World)(e:Ending)(w':World):Prop :=
 e=.returned (if l.take m.length=m then .tuple #[.slice (iO o c m.length) (l.length-m.length) (c-m.length),.bool true] else .tuple #[.slice o l.length c,.bool false])∧Below w.heap.size w w'
theorem Ps (l m:List Nat)(o q:Option Addr)(c d:Nat)(w:World)(hl:By l)(hm:By m)(hb:Bs w o l)(hq:Bs w q m)(hc:l.length≤c∧c≤9223372036854775807)(hd:m.length≤d∧d≤9223372036854775807)(hn:o=none→c=0)(hs:0<c→∀a,o=some a→a.spot=none) :
  Calls prog 72 #[.slice o l.length c,.slice q m.length d] w (OD l m o c w):=by
 have HH:=aA (Oc l m o q c d w hl hm hb hq hc hd);have HC:=aA hc;have HN:=aA hn;have HS:=aA hs;by_cases h:l.take m.length=m
 ·have hle:m.length≤l.length:=by
   have:=congrArg List.length h;rw[bT] at this;omega
  have HLE:=aA hle;have HR:Hid (∀w',Below w.heap.size w w'→OD l m o c w (.returned (.tuple #[.slice (iO o c m.length) (l.length-m.length) (c-m.length),.bool true])) w'):=aA (fun w' hb=>⟨by rw[aZ h],hb⟩);rw[bA h] at HH;clear h hl hm hb hq hc hd hn hs hle;generalize l.length=n at *;generalize m.length=k at *;go_enter func72,ntmps72;go_wp2_with fail;refine HH.out.mono ?_;rintro e w1 ⟨rfl,hb1⟩;have HB:=aA hb1;clear hb1 HH;go_wp2_with (with_reducible refine dQ (some 14) rfl ?_;refine aA ?_;refine fY rfl (.slice (iO o c k) (n-k) (c-k)) w1 (Pk.FE (.tmp 11) (.tmp 13) rfl o n c k (k:Int) rfl rfl rfl HLE.out HC.out.1 HN.out HS.out) ?_)
  go_ret2;exact HR.out _ HB.out
 ·have HR:Hid (∀w',Below w.heap.size w w'→OD l m o c w (.returned (.tuple #[.slice o l.length c,.bool false])) w'):=aA (fun w' hb=>⟨by rw[bF h],hb⟩)
  rw[aN h] at HH;clear h hl hm hb hq hc hd hn hs;generalize l.length=n at *;generalize m.length=k at *;go_enter func72,ntmps72;go_wp2_with fail;refine HH.out.mono ?_;rintro e w1 ⟨rfl,hb1⟩;have HB:=aA hb1;clear hb1 HH;go_wp2_with fail;go_ret2;exact HR.out _ HB.out
def behind (mk l:List Nat):Option (List Nat):=match Cx.opened l with
 | none=>none
 | some m=>if m.take mk.length=mk then some (m.drop mk.length) else none
def kK (mk l:List Nat):Int:=match Cx.opened l with
 | none=>40
 | some m=>if m.take mk.length=mk then 0 else 70
def KY (mk l:List Nat)(w:World)(e:Ending)(w':World):Prop:=Below w.heap.size w w'∧match behind mk l with
 | none=>e=.returned (.tuple #[.pointer none,.int .i64 (kK mk l)])
 | some r=>∃p o c,e=.returned (.tuple #[.pointer (some ⟨p,0,none⟩),.int .i64 0])∧PR o c r p 0 false w'∧w.heap.size≤p∧(∀b off,o=some ⟨b,off,none⟩→w.heap.size≤b)
theorem uU {l m:List Nat}(hl:By l)(h:Cx.opened l=some m):By m∧m.length+4=l.length:=by
 unfold Cx.opened at h
 split at h
 ·rename_i hc
  cases h;exact ⟨fun x hx=>hl x (cI hx),by rw[bT];omega⟩
 ·cases h
theorem zC (mk:List Nat)(Mv:By mk)(jH:mk.length≤100)(l:List Nat)(o:Option Addr)(c:Nat)(w:World)(hl:By l)(hlen:l.length≤900000)(hc:l.length≤c)(hc2:c≤9223372036854775807)(hb:Bs w o l) :
  Calls prog 40 #[.string (Pk.fR mk),.slice o l.length c] w (KY mk l w):=by
 have HO:=aA (Cx.Ld l l.length rfl o c w (TS hl) hlen hc hc2 (TT hb));have HMK:=aA Mv;have CG:=aA jH;have yA:=aA (fun m (h:Cx.opened l=some m)=>uU hl h);have UL:=aA hlen;obtain ⟨R,hR⟩:∃R,Cx.opened l=R:=⟨_,rfl⟩;have tA:Hid (Cx.opened l=R):=aA hR;rw[hR] at HO;clear Mv jH hl hlen hc hc2 hb hR
 cases R with
 | none =>
  have HE:Hid (∀w',Below w.heap.size w w'→KY mk l w (.returned (.tuple #[.pointer none,.int .i64 40])) w'):=aA (fun w' hb=>⟨hb,by
   have e:behind mk l=none:=by unfold behind;rw[tA.out]
   have e2:kK mk l=40:=by unfold kK;rw[tA.out]
   rw[e,e2]⟩)
  go_enter func40,ntmps40;go_wp2_with fail;refine HO.out.mono ?_;rintro e w1 ⟨⟨v1,rfl,ho⟩,hb1⟩;have HB:=aA hb1;rw[show Cx.erO none=40 from rfl];clear hb1 ho HO;go_wp2_with fail;go_ret2;exact HE.out _ HB.out
 | some m =>
  obtain ⟨hby,jH⟩:=yA.out m tA.out;go_enter func40,ntmps40;go_wp2_with fail;refine HO.out.mono ?_;rintro e w1 ⟨⟨v1,rfl,ho⟩,hb1⟩;rw[show Cx.erO (some m)=0 from rfl];have Sg:Pk.Own w1 w.heap.size v1 m:=WL ho;obtain ⟨o1,c1,rfl,mJ,hc1,hc2,oF,hsp⟩:=Sg.open;have hcv:(convert 9 31 (.string (Pk.fR mk))).run prog w1=.ok (.slice (some ⟨w1.heap.size,0,none⟩) (Pk.fR mk).size (grownCap w1 (Pk.fR mk).size 0 5)) (bytesWorld w1 5 (Pk.fR mk)):=Go.Lib.run_convert_string_bytes w1 _ _ _ _ underlying9 bJ dB;rw[oL] at hcv;have hge:mk.length≤grownCap w1 mk.length 0 5:=grownCap_ge w1 mk.length 0 5;have hgm:grownCap w1 mk.length 0 5≤9223372036854775807:=by
   have:=grownCap_le_maxLen w1 mk.length 0 5 (by unfold maxLen;have:=CG.out;omega);unfold maxLen at this;omega
  have Fg:=bytesWorld_below w1 5 (Pk.fR mk);have hmb:Bs (bytesWorld w1 5 (Pk.fR mk)) (some ⟨w1.heap.size,0,none⟩) mk:=fun j hj=>⟨_,_,rfl,by rw[bE,bytesWorld_cell _ _ _ _ (by rw[oL];exact hj),Bv HMK.out hj]⟩
  have IM:=mJ.below Fg;obtain ⟨cp,Wn⟩:∃c,grownCap w1 mk.length 0 5=c:=⟨_,rfl⟩;obtain ⟨W4,Ih⟩:∃W,bytesWorld w1 5 (Pk.fR mk)=W:=⟨_,rfl⟩;rw[Wn,Ih] at hcv;rw[Wn] at hge hgm;rw[Ih] at hmb IM Fg;have hspot:0<c1→∀a,o1=some a→a.spot=none:=fun _ a ha=>by
   obtain ⟨g,hg,_⟩:=hsp a ha;rw[hg]
  have Tf:=aA (Ps m mk o1 (some ⟨w1.heap.size,0,none⟩) c1 cp W4 hby HMK.out IM hmb ⟨hc1,hc2⟩ ⟨hge,hgm⟩ oF hspot);have Ti:=aA (dN hb1 Fg);have JC:=aA hcv;have Rp:=aA IM;have pH:=aA hc1;have OH:=aA oF;clear ho Sg mJ hc2 hsp hcv hge hgm Fg hmb IM Wn Ih hspot hc1 oF hb1 HO;unfold OD at Tf;by_cases h:m.take mk.length=mk
  ·simp only[aZ h] at Tf
   have JD:Hid (behind mk l=some (m.drop mk.length)):=aA (by unfold behind;rw[tA.out];dsimp only;rw[aZ h]);have hle:mk.length≤m.length:=by
    have:=congrArg List.length h;rw[bT] at this;omega
   have Wk:(m.drop mk.length).length=m.length-mk.length:=by simp
   have hcut:Bs W4 (iO o1 c1 mk.length) (m.drop mk.length):=by
    have:=Rp.out.cut (h:=m.length) hle (aB _) pH.out
    rwa [bB (by rw[Wk];omega)] at this
   have HNR:=aA (fun (X:World) (hb:Below W4.heap.size W4 X)=>Pk.WU (iO o1 c1 mk.length) (c1-mk.length) (m.drop mk.length) X (fun e=>by
    have : o1=none:=by
     unfold Pk.iO at e
     simpa using e
    have:=OH.out this;omega) (by rw[Wk];have:=UL.out;omega) (hcut.below hb))
   rw[Wk] at HNR;clear h hle Wk hcut Rp pH OH hby jH;generalize iO o1 c1 mk.length=oc at Tf HNR;generalize c1-mk.length=cc at Tf HNR;generalize m.length-mk.length=nn at Tf HNR;go_wp2_with (with_reducible refine dQ (some 21) rfl ?_;refine aA ?_;refine vW rfl (.tmp 20) 9 31 rfl (.string (Pk.fR mk)) (.slice (some ⟨w1.heap.size,0,none⟩) mk.length cp) W4 rfl JC.out ?_)
   refine Tf.out.mono ?_;rintro e w5 ⟨rfl,jT⟩;have AH:=aA (dN Ti.out jT);have HN5:=aA (HNR.out w5 jT);clear jT Tf HNR JC;go_wp2_with fail;refine HN5.out.mono ?_;rintro e w6 ⟨p,o2,c2,rfl,zT,hp,sA,KL⟩;have HE:Hid (KY mk l w (.returned (.tuple #[.pointer (some ⟨p,0,none⟩),.int .i64 0])) w6):=aA ⟨dN AH.out KL,by
    rw[JD.out];exact ⟨p,o2,c2,rfl,zT,bH AH.out.size hp,fun b off e=>bH AH.out.size (sA b off e)⟩⟩
   clear zT hp sA KL HN5;go_wp2_with fail;go_ret2;exact HE.out
  ·simp only[bF h] at Tf
   have HE:Hid (∀w',Below w.heap.size w w'→KY mk l w (.returned (.tuple #[.pointer none,.int .i64 70])) w'):=aA (fun w' hb=>⟨hb,by
    have e:behind mk l=none:=by unfold behind;rw[tA.out];dsimp only;rw[bF h]
    have e2:kK mk l=70:=by unfold kK;rw[tA.out];dsimp only;rw[bF h]
    rw[e,e2]⟩)
   clear h Rp pH OH hby jH;go_wp2_with (with_reducible refine dQ (some 21) rfl ?_;refine aA ?_;refine vW rfl (.tmp 20) 9 31 rfl (.string (Pk.fR mk)) (.slice (some ⟨w1.heap.size,0,none⟩) mk.length cp) W4 rfl JC.out ?_)
   refine Tf.out.mono ?_;rintro e w5 ⟨rfl,jT⟩;have AH:=aA (dN Ti.out jT);clear jT Tf JC;go_wp2_with fail;go_ret2;exact HE.out _ AH.out
end Fx
end Go.Proofs.YtbbhmhihpdmoiaaGreat
