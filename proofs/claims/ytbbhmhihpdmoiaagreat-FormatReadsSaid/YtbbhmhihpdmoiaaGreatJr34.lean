import Derived.Test.YtbbhmhihpdmoiaaGreatJr33
set_option linter.unusedVariables false
set_option linter.unusedSimpArgs false
set_option maxRecDepth 100000
set_option maxHeartbeats 32000000
namespace Go.Proofs.YtbbhmhihpdmoiaaGreat
namespace Fx
open Go Go.RowKit
open Pk (PR iA Bs)
theorem rH (a b:Addr) (w:World) :
  CallsD Tryz.prog 109 #[.pointer (some a),.pointer (some b)] .returning w fun e u' w'=>e=.returned (.tuple #[])∧u'=.returning∧w'=w:=by
 refine callsD_of_wpS Tryz.func109 rfl fun c₀ cs hu=>?_
 apply wpS_seq
 apply wpS_region
 simp [wpOpsS,go_sem,recoverD,hu,Tryz.ntmps109,Exit.thenS]
 refine wpS_cond (t:=false) (by simp [Act.eval,Array.replicate]) ?_
 simp only [bE,if_false]
 refine wpS_of_wp (wp_skip ?_)
 cases c₀
 simp_all [bodyPostS,results,Tryz.results109]
theorem Ir (B:Nat) (o:Option Addr) (c:Nat) (l:List Nat) (p eH:Nat) (lost:Bool) (w:World) (hB:B≤w.heap.size) (k:iA l eH) (h:PR o c l p eH lost w) (iQ:∀ b off,o=some ⟨b,off,none⟩→0 < l.length→b < w.heap.size) :
  Calls Tryz.prog 78 #[.pointer (some ⟨p,0,none⟩),.int .i64 64,.func (.func 79) #[] #[]] w (TF (fun z:List Int=>z) 85 3 (List.map encI) (fun (z:List Int) (_:World)=>jX z) o c l p (fQ lost (jA 64 nI) l eH) w):=by
 have hel:OW 85 70 (fun (z:List Int) (_:World)=>jX z):=fun z W X h _=>h
 have oH:=aA hel
 have hmf:∀ (fn:Fn) (first cap:Array Value) (w:World),(Instr.makeFunc fn first cap).run Tryz.prog w=.ok (.func fn first cap) w:=fun _ _ _ _=>rfl
 have hp:=h.lt
 obtain ⟨W1,hW1⟩:∃ W1,(w.alloc (.cells #[.pointer (some ⟨p,0,none⟩)] 90)).alloc (.cells #[.slice none 0 0] 70)=W1:=⟨_,rfl⟩
 have hb1:Below w.heap.size w W1:=by rw [←hW1];exact ((aI _ w).alloc (aB _) _).alloc (by simp) _
 have hs:=Pk.oC o c l p eH 64 lost W1 k (by omega) (h.below hb1)
 have hms:BS 85 70 3 (List.map encI) (fun (z:List Int) (_:World)=>jX z) o c l p eH lost (.slice none 0 0) [] w W1:=by
  refine ⟨?_,?_,h.below hb1,iD.nil _ _ _ _ _,fun z hz=>by simp at hz,Pk.below_grown hb1 (some p)⟩
  ·rw [←hW1];exact dW (aG _ _)
  ·rw [←hW1]
   have:=aG (w.alloc (.cells #[.pointer (some ⟨p,0,none⟩)] 90)) (.cells #[.slice none 0 0] 70)
   rw [aR] at this
   exact this
 have HS:=aA hs
 have mO:=aA hms
 have HK:=aA k
 have HP:=aA hp
 have jJ:=aA iQ
 have HW1:=aA hW1
 have HB:=aA hB
 clear hs hms h iQ hb1 hW1 k hp hel hB
 have hse:=nD (lost:=lost) (most:=64) (l:=l) (a:=eH)
 obtain ⟨R,hR⟩:∃ R,Pk.rz lost (64:Int) (l.drop eH)=R:=⟨_,rfl⟩
 have hR':Pk.rz lost ((64:Nat):Int) (l.drop eH)=R:=hR
 rw [hR] at HS
 rw [hR'] at hse
 obtain ⟨r,hr⟩:∃ r,fQ lost (jA 64 nI) l eH=r:=⟨_,rfl⟩
 have LQ:Hid (r=match R.map (fun q=>((q.1:Int),eH + q.2)) with | none=>none | some (n,b)=>gK nI n.toNat l b):=aA (by
  rw [←hr,hse]
  unfold fQ jA
  cases lost <;> rfl)
 have Pg:Hid (∀ q,R=some q→q.1≤64∧eH + q.2≤l.length):=aA (fun q hq=>by
  rw [hq] at hse
  simp only [Option.map_some] at hse
  unfold fQ at hse
  split at hse
  ·cases hse
  ·have:=JJ HK.out.at' hse.symm
   omega)
 rw [hr]
 clear hR hR' hse hr
 cases R with
 | none =>
  have hrn:r=none:=LQ.out
  subst hrn
  go_enter_defers Tryz.func78,Tryz.ntmps78
  go_wp2_with fail
  rw [HW1.out]
  refine HS.out.mono ?_
  rintro e w1 ⟨rfl,hr1,hg1⟩
  simp only [Pk.qU,Pk.XJ,Pk.XI,Option.isNone_none] at hr1 ⊢
  have hm1:=mO.out.read oH.out (by decide) HP.out hr1 hg1
  obtain ⟨c0,c1,f1⟩:=hm1.facts
  have lH:=aA (hm1.strike oH.out (by decide) HP.out jJ.out)
  have mM:Hid (TF (fun z:List Int=>z) 85 3 (List.map encI) (fun (z:List Int) (_:World)=>jX z) o c l p none w (.returned (.slice none 0 0)) (w1.setCell ⟨w.heap.size + 1,0,none⟩ (.slice none 0 0))):=aA ⟨lH.out.grow,fun _=>⟨rfl,eH,HK.out.at',lH.out.rd⟩,fun zs a h=>by cases h⟩
  clear hr1 hg1 hm1 HS mO
  go_wp2_with fail
  go_loopg [12] 0 (fun g s12 wr=>g=0∧s12=.int .i64 0∧wr=w1)
  case atStart=>exact ⟨rfl,rfl,rfl⟩
  case round =>
   obtain ⟨_,rfl,rfl⟩:=hrel
   go_wp2_with fail
   refine leaves_cons (f:=109) (args:=#[.pointer (some ⟨w.heap.size,0,none⟩),.pointer (some ⟨w.heap.size + 1,0,none⟩)]) (by simp) (by simp [go_sem]) ?_
   refine (rH ⟨w.heap.size,0,none⟩ ⟨w.heap.size + 1,0,none⟩ _).mono ?_
   rintro e u' w'' ⟨rfl,rfl,rfl⟩
   obtain ⟨_,dr,_⟩:=lH.out.facts
   simp only [Leaves,settle]
   refine ⟨_,(by simp [results,Tryz.results78,go_sem,dr];rfl),?_⟩
   exact mM.out
 | some q =>
  obtain ⟨n,j⟩:=q
  have hrm:r=gK nI n l (eH + j):=LQ.out
  obtain ⟨hnm,hal⟩:=Pg.out (n,j) rfl
  dsimp only at hnm hal
  obtain ⟨SF,zP⟩:∃ SF,eH + j=SF:=⟨_,rfl⟩
  rw [zP] at hrm hal
  have Gt:=aA hrm
  have HAT:=aA zP
  have HNM:=aA hnm
  have n0:(0:Int)≤(n:Int):=by omega
  have n9:(n:Int)≤64:=by omega
  clear LQ Pg hrm hnm zP
  go_enter_defers Tryz.func78,Tryz.ntmps78
  go_wp2_with fail
  rw [HW1.out]
  refine HS.out.mono ?_
  rintro e w1 ⟨rfl,hr1,hg1⟩
  simp only [Pk.qU,Pk.XJ,Pk.XI,Option.isNone_some] at hr1 ⊢
  rw [HAT.out] at hr1
  have OU:=aA (mO.out.read oH.out (by decide) HP.out hr1 hg1)
  clear hr1 hg1 HS mO
  go_wp2_with fail
  go_loopg [7,12] n (fun g s7 s12 wr=>∃ (i a:Nat) (v:Value) (zs:List (List Int)),g=n - i∧i≤n∧s12=.int .i64 (i:Int)∧a≤l.length∧zs.length=i∧r=(gK nI (n - i) l a).map (fun q=>(zs.map (fun z:List Int=>z) ++ q.1,q.2))∧BS 85 70 3 (List.map encI) (fun (z:List Int) (_:World)=>jX z) o c l p a false v zs w wr)
  case atStart=>exact ⟨0,SF,_,[],rfl,by omega,rfl,hal,rfl,by rw [Gt.out];(cases gK nI (n - 0) l SF <;> rfl),OU.out⟩
  case round =>
   clear OU
   obtain ⟨i,a,v,zs,hgi,hi2,rfl,Ob,hzs,hrr,hms⟩:=hrel
   subst hgi
   obtain ⟨c0,c1,f1⟩:=hms.facts
   have mO:=aA hms
   have HRR:=aA hrr
   have Gn:=aA hzs
   have HK1:Hid (iA l a):=aA ⟨HK.out.by',HK.out.len,Ob⟩
   have i00:(0:Int)≤(i:Int):=by omega
   clear hms hrr hzs
   by_cases hin:i < n
   ·have t1:(i:Int) < (n:Int):=by omega
    have hone:=UE o c l p a false wr HK1.out mO.out.rd (fun b off e h=>by have:=jJ.out b off e h;have:=mO.out.lt;omega)
    have hnk:n - i=(n - (i + 1)) + 1:=by omega
    have hr2:=HRR.out
    rw [hnk,lN] at hr2
    unfold Tq lF at hone
    have hrun:fQ false nI l a=nI l a:=rfl
    rw [hrun] at hone
    obtain ⟨R2,hR2⟩:∃ R2,nI l a=R2:=⟨_,rfl⟩
    rw [hR2] at hone hr2
    have mY:=aA hone
    have HR2:=aA hr2
    clear hone hnk hr2 hR2 HRR hrun
    go_wp2_with fail
    refine mY.out.mono ?_
    rintro e w2 ⟨hg2,x,rfl,hex,hx2⟩
    clear mY
    cases R2 with
    | none =>
     have qD:Hid (r=none):=aA HR2.out
     obtain ⟨a2,ha2,hr2⟩:=hx2
     have hm1:=mO.out.read oH.out (by decide) HP.out hr2 hg2
     obtain ⟨V2,hV2⟩:∃ V,w2.alloc (.cells #[.int .i64 0,.int .i64 0,.int .i64 0] 85)=V:=⟨_,rfl⟩
     have r2:dR 85 w2.heap.size #[.int .i64 0,.int .i64 0,.int .i64 0] V2:=by rw [←hV2];exact dR.new _ _ _
     obtain ⟨Y2,hY2⟩:∃ V,V2.setRow w2.heap.size ((List.map encI) x).toArray=V:=⟨_,rfl⟩
     have r3:dR 85 w2.heap.size ((List.map encI) x).toArray Y2:=by rw [←hY2];exact r2.row _
     have hb2:Below w2.heap.size w2 Y2:=by rw [←hY2,←hV2];exact Below.row ((aI _ _).alloc (aB _) _) (aB _) _
     have hm2:=hm1.up oH.out hb2
     have uB:=oH.out x _ _ hex (fun u _ _ _=>Rows.of_below hb2)
     have uJ:=aA hV2
     have BG:=aA hY2
     have BJ:=aA r2
     have KY:=aA (show Y2.rangeAt w2.heap.size 0 ((List.map encI) x) from fun j u hj=>by rw [aF _ _ _ _ _ _ r3,bB];simpa using hj)
     have hln:((List.map encI) x).length=3:=(by rw [bI];exact hex.len)
     have hi1:=aA (show (Tryz.prog.info? 85).map (·.size)=some ((List.map encI) x).toArray.size by rw [aL,hln];kernel_rfl)
     have hi2:=aA (show (Tryz.prog.info? 85).map (·.size)=some ((List.map encI) x).length by rw [hln];kernel_rfl)
     have hi3:=aA (show 3=((List.map encI) x).toArray.size by rw [aL,hln])
     have hi4:Hid (((List.map encI) x).toArray.all (·.oneCell')=true):=aA (by rw [List.all_toArray,bL];exact fun u hu=>yB x u hu)
     clear hV2 hY2 r2 r3 hb2 hm1 hln
     obtain ⟨d0,d1,e1⟩:=hm2.facts
     obtain ⟨g0,g1,_⟩:=hm2.rd.facts
     have HF:=aA (Pk.gU p true true Y2 g0 g1)
     have lH:=aA (hm2.strike oH.out (by decide) HP.out jJ.out)
     have mM:Hid (TF (fun z:List Int=>z) 85 3 (List.map encI) (fun (z:List Int) (_:World)=>jX z) o c l p r w (.returned (.slice none 0 0)) (Y2.setCell ⟨w.heap.size + 1,0,none⟩ (.slice none 0 0))):=aA ⟨lH.out.grow,fun _=>⟨rfl,a2,ha2,lH.out.rd⟩,fun zs a h=>by rw [qD.out] at h;cases h⟩
     clear hr2 hg2 hm2 mO HR2 qD c0 c1 f1 g0 g1
     go_wp2_with (first | (rw [uJ.out]) | (rw [BG.out]) | (refine dQ rfl 85 (.tmp 7) (.tmp 16) rfl w2.heap.size _ _ ((List.map encI) x).toArray rfl rfl BJ.out hi1.out hi3.out hi4.out ?_))
     refine HF.out.mono ?_
     rintro e w3 ⟨rfl,rfl⟩
     simp only [Pk.fl,if_true]
     go_wp2_with fail
     refine leaves_cons (f:=109) (args:=#[.pointer (some ⟨w.heap.size,0,none⟩),.pointer (some ⟨w.heap.size + 1,0,none⟩)]) (by simp) (by simp [go_sem]) ?_
     refine (rH ⟨w.heap.size,0,none⟩ ⟨w.heap.size + 1,0,none⟩ _).mono ?_
     rintro e u' w'' ⟨rfl,rfl,rfl⟩
     obtain ⟨_,dr,_⟩:=lH.out.facts
     simp only [Leaves,settle]
     refine ⟨_,(by simp [results,Tryz.results78,go_sem,dr];rfl),?_⟩
     exact mM.out
    | some q2 =>
     obtain ⟨kx,jj⟩:=q2
     obtain ⟨hkx,hjl,hr2⟩:=hx2
     have hm1:=mO.out.read oH.out (by decide) HP.out hr2 hg2
     obtain ⟨V2,hV2⟩:∃ V,w2.alloc (.cells #[.int .i64 0,.int .i64 0,.int .i64 0] 85)=V:=⟨_,rfl⟩
     have r2:dR 85 w2.heap.size #[.int .i64 0,.int .i64 0,.int .i64 0] V2:=by rw [←hV2];exact dR.new _ _ _
     obtain ⟨Y2,hY2⟩:∃ V,V2.setRow w2.heap.size ((List.map encI) x).toArray=V:=⟨_,rfl⟩
     have r3:dR 85 w2.heap.size ((List.map encI) x).toArray Y2:=by rw [←hY2];exact r2.row _
     have hb2:Below w2.heap.size w2 Y2:=by rw [←hY2,←hV2];exact Below.row ((aI _ _).alloc (aB _) _) (aB _) _
     have hm2:=hm1.up oH.out hb2
     have uB:=oH.out x _ _ hex (fun u _ _ _=>Rows.of_below hb2)
     have uJ:=aA hV2
     have BG:=aA hY2
     have BJ:=aA r2
     have KY:=aA (show Y2.rangeAt w2.heap.size 0 ((List.map encI) x) from fun j u hj=>by rw [aF _ _ _ _ _ _ r3,bB];simpa using hj)
     have hln:((List.map encI) x).length=3:=(by rw [bI];exact hex.len)
     have hi1:=aA (show (Tryz.prog.info? 85).map (·.size)=some ((List.map encI) x).toArray.size by rw [aL,hln];kernel_rfl)
     have hi2:=aA (show (Tryz.prog.info? 85).map (·.size)=some ((List.map encI) x).length by rw [hln];kernel_rfl)
     have hi3:=aA (show 3=((List.map encI) x).toArray.size by rw [aL,hln])
     have hi4:Hid (((List.map encI) x).toArray.all (·.oneCell')=true):=aA (by rw [List.all_toArray,bL];exact fun u hu=>yB x u hu)
     clear hV2 hY2 r2 r3 hb2 hm1 hln
     obtain ⟨g0,g1,_⟩:=hm2.rd.facts
     have HF:=aA (Pk.gU p true false Y2 g0 g1)
     obtain ⟨ov,cv,hvv,_,_⟩:=hm2.own.form (fun z hz=>by rw [bI];exact (hm2.el z hz).len)
     subst hvv
     obtain ⟨d0,d1,e1⟩:=hm2.facts
     have Mi:=aA hm2
     have HEX:=aA uB
     have Fj:=aA hkx
     have HJL:=aA hjl
     obtain ⟨V3,sS⟩:∃ V,Y2.alloc (.cells ((List.map encI) x).toArray 85)=V:=⟨_,rfl⟩
     have hb3:Below Y2.heap.size Y2 V3:=by rw [←sS];exact (aI _ _).alloc (aB _) _
     have TJ:=aA (hm2.up oH.out hb3)
     have HEA:=aA (oH.out x _ _ uB (fun u _ _ _=>Rows.of_below hb3))
     have qD:=aA (show V3.heap[Y2.heap.size]?=some (.cells ((List.map encI) x).toArray 85 (0,0)) by rw [←sS];exact aG _ _)
     have Fh:Hid (((List.map encI) x).toArray.size=3):=aA (by rw [aL];exact (by rw [bI];exact hex.len))
     have LP:=aA sS
     have WW:Hid (w.heap.size + 2≤V3.heap.size):=aA TJ.out.lt
     clear hr2 hg2 hm2 mO c0 c1 f1 g0 g1 hex uB hkx hjl sS hb3
     go_wp2_with (first | (rw [uJ.out]) | (rw [BG.out]) | (refine dQ rfl 85 (.tmp 7) (.tmp 16) rfl w2.heap.size _ _ ((List.map encI) x).toArray rfl rfl BJ.out hi1.out hi3.out hi4.out ?_))
     refine HF.out.mono ?_
     rintro e w3 ⟨rfl,rfl⟩
     simp only [Pk.fl,if_true,bE,if_false]
     clear HF
     go_wp2_with (first | (rw [LP.out]) | (with_reducible refine eQ (some 21) rfl ?_;refine aA ?_;refine wpList_load_mid rfl 85 (.tmp 7) rfl w2.heap.size 0 rfl ((List.map encI) x) _ KY.out dA rfl hi2.out ?_) | (with_reducible refine eQ (some 22) rfl ?_;refine aA ?_;refine lU FL (by omega) rfl (.tmp 21) 70 rfl Tryz.underlying70 ((List.map encI) x).toArray rfl Fh.out ?_) | (at_builtin;refine AV FL rfl (.tmp 20) (.tmp 22) 70 rfl Tryz.underlying70 (w.heap.size + 2) (.slice ov zs.length cv) zs [x] rfl WW.out TJ.out.own (some ⟨Y2.heap.size,0,none⟩) 1 rfl (fun h=>by cases h) (pW qD.out) (fun z hz=>by simp at hz;subst hz;have:=Fh.out;rwa [aL] at this) (fun z _=>yB z) (by have:=Gn.out;have:=HNM.out;simp;omega) ?_))
     intro v' w4 zK hg4
     refine aA ?_
     obtain ⟨rU,Gg⟩:=TJ.out.app oH.out (by decide) HP.out jJ.out zK hg4 (fun z hz=>by
      rcases bU.1 hz with hz | hz
      ·exact TJ.out.el z hz
      ·simp at hz
       subst hz
       exact HEA.out)
     have s0:w4.cell? ⟨w.heap.size + 1,0,none⟩=some (.slice ov zs.length cv):=(aF _ _ 0 _ _ _ rU).trans rfl
     have s1:w4.frozen? ⟨w.heap.size + 1,0,none⟩=false:=dU rU
     obtain ⟨ow,cw,hvw,_,_⟩:=zK.form (fun z hz=>by rw [bI];exact (Gg.el z hz).len)
     subst hvw
     have Ph:=aA Gg
     clear zK hg4 rU Gg d0 d1 e1
     obtain ⟨ml,hml⟩:∃ ml,(zs ++ [x]).length=ml:=⟨_,rfl⟩
     rw [hml] at Ph ⊢
     have XA:=aA hml
     clear hml
     go_wp2_with fail
     go_roundg (n - (i + 1))
     case measure=>omega
     case rel =>
      refine ⟨i + 1,jj,_,zs ++ [x],rfl,by omega,by go_num,HJL.out,by simp [Gn.out],?_,Ph.out⟩
      rw [HR2.out]
      (try dsimp only)
      rw [←Fj.out]
      cases gK nI (n - (i + 1)) l jj with
      | none=>rfl
      | some q=>simp
   ·have t1:¬ (i:Int) < (n:Int):=by omega
    have qC:Hid (r=some (zs.map (fun z:List Int=>z),a)):=aA (by
     have:=HRR.out
     rw [show n - i=0 by omega] at this
     rw [this]
     simp [gK])
    obtain ⟨ov,cv,hvv,_,_⟩:=mO.out.own.form (fun z hz=>by rw [bI];exact (mO.out.el z hz).len)
    subst hvv
    have hfin:=(mO.out.app oH.out (by decide) HP.out jJ.out mO.out.own (cB _ _) mO.out.el).2
    have lH:=aA hfin
    have mM:Hid (TF (fun z:List Int=>z) 85 3 (List.map encI) (fun (z:List Int) (_:World)=>jX z) o c l p r w (.returned (.slice ov zs.length cv)) (wr.setCell ⟨w.heap.size + 1,0,none⟩ (.slice ov zs.length cv))):=aA ⟨hfin.grow,(fun h=>by rw [qC.out] at h;cases h),fun ks' a' h=>by rw [qC.out] at h;cases h;exact ⟨⟨_,zs,rfl,hfin.own.base (by omega),hfin.el,rfl⟩,Ob,hfin.rd⟩⟩
    clear HRR mO hfin qC
    go_wp2_with fail
    refine leaves_cons (f:=109) (args:=#[.pointer (some ⟨w.heap.size,0,none⟩),.pointer (some ⟨w.heap.size + 1,0,none⟩)]) (by simp) (by simp [go_sem]) ?_
    refine (rH ⟨w.heap.size,0,none⟩ ⟨w.heap.size + 1,0,none⟩ _).mono ?_
    rintro e u' w'' ⟨rfl,rfl,rfl⟩
    obtain ⟨_,dr,_⟩:=lH.out.facts
    simp only [Leaves,settle]
    refine ⟨_,(by simp [results,Tryz.results78,go_sem,dr];rfl),?_⟩
    exact mM.out
theorem rJ (a b:Addr) (w:World) :
  CallsD Tryz.prog 112 #[.pointer (some a),.pointer (some b)] .returning w fun e u' w'=>e=.returned (.tuple #[])∧u'=.returning∧w'=w:=by
 refine callsD_of_wpS Tryz.func112 rfl fun c₀ cs hu=>?_
 apply wpS_seq
 apply wpS_region
 simp [wpOpsS,go_sem,recoverD,hu,Tryz.ntmps112,Exit.thenS]
 refine wpS_cond (t:=false) (by simp [Act.eval,Array.replicate]) ?_
 simp only [bE,if_false]
 refine wpS_of_wp (wp_skip ?_)
 cases c₀
 simp_all [bodyPostS,results,Tryz.results112]
theorem Iu (B:Nat) (o:Option Addr) (c:Nat) (l:List Nat) (p eH:Nat) (lost:Bool) (w:World) (hB:B≤w.heap.size) (k:iA l eH) (h:PR o c l p eH lost w) (iQ:∀ b off,o=some ⟨b,off,none⟩→0 < l.length→b < w.heap.size) :
  Calls Tryz.prog 81 #[.pointer (some ⟨p,0,none⟩),.int .i64 64,.func (.func 82) #[] #[]] w (TF (fun z:iH=>z) 87 4 fV (fun (z:iH) (_:World)=>mX z) o c l p (fQ lost (jA 64 tH) l eH) w):=by
 have hel:OW 87 71 (fun (z:iH) (_:World)=>mX z):=fun z W X h _=>h
 have oH:=aA hel
 have hmf:∀ (fn:Fn) (first cap:Array Value) (w:World),(Instr.makeFunc fn first cap).run Tryz.prog w=.ok (.func fn first cap) w:=fun _ _ _ _=>rfl
 have hp:=h.lt
 obtain ⟨W1,hW1⟩:∃ W1,(w.alloc (.cells #[.pointer (some ⟨p,0,none⟩)] 90)).alloc (.cells #[.slice none 0 0] 71)=W1:=⟨_,rfl⟩
 have hb1:Below w.heap.size w W1:=by rw [←hW1];exact ((aI _ w).alloc (aB _) _).alloc (by simp) _
 have hs:=Pk.oC o c l p eH 64 lost W1 k (by omega) (h.below hb1)
 have hms:BS 87 71 4 fV (fun (z:iH) (_:World)=>mX z) o c l p eH lost (.slice none 0 0) [] w W1:=by
  refine ⟨?_,?_,h.below hb1,iD.nil _ _ _ _ _,fun z hz=>by simp at hz,Pk.below_grown hb1 (some p)⟩
  ·rw [←hW1];exact dW (aG _ _)
  ·rw [←hW1]
   have:=aG (w.alloc (.cells #[.pointer (some ⟨p,0,none⟩)] 90)) (.cells #[.slice none 0 0] 71)
   rw [aR] at this
   exact this
 have HS:=aA hs
 have mO:=aA hms
 have HK:=aA k
 have HP:=aA hp
 have jJ:=aA iQ
 have HW1:=aA hW1
 have HB:=aA hB
 clear hs hms h iQ hb1 hW1 k hp hel hB
 have hse:=nD (lost:=lost) (most:=64) (l:=l) (a:=eH)
 obtain ⟨R,hR⟩:∃ R,Pk.rz lost (64:Int) (l.drop eH)=R:=⟨_,rfl⟩
 have hR':Pk.rz lost ((64:Nat):Int) (l.drop eH)=R:=hR
 rw [hR] at HS
 rw [hR'] at hse
 obtain ⟨r,hr⟩:∃ r,fQ lost (jA 64 tH) l eH=r:=⟨_,rfl⟩
 have LQ:Hid (r=match R.map (fun q=>((q.1:Int),eH + q.2)) with | none=>none | some (n,b)=>gK tH n.toNat l b):=aA (by
  rw [←hr,hse]
  unfold fQ jA
  cases lost <;> rfl)
 have Pg:Hid (∀ q,R=some q→q.1≤64∧eH + q.2≤l.length):=aA (fun q hq=>by
  rw [hq] at hse
  simp only [Option.map_some] at hse
  unfold fQ at hse
  split at hse
  ·cases hse
  ·have:=JJ HK.out.at' hse.symm
   omega)
 rw [hr]
 clear hR hR' hse hr
 cases R with
 | none =>
  have hrn:r=none:=LQ.out
  subst hrn
  go_enter_defers Tryz.func81,Tryz.ntmps81
  go_wp2_with fail
  rw [HW1.out]
  refine HS.out.mono ?_
  rintro e w1 ⟨rfl,hr1,hg1⟩
  simp only [Pk.qU,Pk.XJ,Pk.XI,Option.isNone_none] at hr1 ⊢
  have hm1:=mO.out.read oH.out (by decide) HP.out hr1 hg1
  obtain ⟨c0,c1,f1⟩:=hm1.facts
  have lH:=aA (hm1.strike oH.out (by decide) HP.out jJ.out)
  have mM:Hid (TF (fun z:iH=>z) 87 4 fV (fun (z:iH) (_:World)=>mX z) o c l p none w (.returned (.slice none 0 0)) (w1.setCell ⟨w.heap.size + 1,0,none⟩ (.slice none 0 0))):=aA ⟨lH.out.grow,fun _=>⟨rfl,eH,HK.out.at',lH.out.rd⟩,fun zs a h=>by cases h⟩
  clear hr1 hg1 hm1 HS mO
  go_wp2_with fail
  go_loopg [12] 0 (fun g s12 wr=>g=0∧s12=.int .i64 0∧wr=w1)
  case atStart=>exact ⟨rfl,rfl,rfl⟩
  case round =>
   obtain ⟨_,rfl,rfl⟩:=hrel
   go_wp2_with fail
   refine leaves_cons (f:=112) (args:=#[.pointer (some ⟨w.heap.size,0,none⟩),.pointer (some ⟨w.heap.size + 1,0,none⟩)]) (by simp) (by simp [go_sem]) ?_
   refine (rJ ⟨w.heap.size,0,none⟩ ⟨w.heap.size + 1,0,none⟩ _).mono ?_
   rintro e u' w'' ⟨rfl,rfl,rfl⟩
   obtain ⟨_,dr,_⟩:=lH.out.facts
   simp only [Leaves,settle]
   refine ⟨_,(by simp [results,Tryz.results81,go_sem,dr];rfl),?_⟩
   exact mM.out
 | some q =>
  obtain ⟨n,j⟩:=q
  have hrm:r=gK tH n l (eH + j):=LQ.out
  obtain ⟨hnm,hal⟩:=Pg.out (n,j) rfl
  dsimp only at hnm hal
  obtain ⟨SF,zP⟩:∃ SF,eH + j=SF:=⟨_,rfl⟩
  rw [zP] at hrm hal
  have Gt:=aA hrm
  have HAT:=aA zP
  have HNM:=aA hnm
  have n0:(0:Int)≤(n:Int):=by omega
  have n9:(n:Int)≤64:=by omega
  clear LQ Pg hrm hnm zP
  go_enter_defers Tryz.func81,Tryz.ntmps81
  go_wp2_with fail
  rw [HW1.out]
  refine HS.out.mono ?_
  rintro e w1 ⟨rfl,hr1,hg1⟩
  simp only [Pk.qU,Pk.XJ,Pk.XI,Option.isNone_some] at hr1 ⊢
  rw [HAT.out] at hr1
  have OU:=aA (mO.out.read oH.out (by decide) HP.out hr1 hg1)
  clear hr1 hg1 HS mO
  go_wp2_with fail
  go_loopg [7,12] n (fun g s7 s12 wr=>∃ (i a:Nat) (v:Value) (zs:List iH),g=n - i∧i≤n∧s12=.int .i64 (i:Int)∧a≤l.length∧zs.length=i∧r=(gK tH (n - i) l a).map (fun q=>(zs.map (fun z:iH=>z) ++ q.1,q.2))∧BS 87 71 4 fV (fun (z:iH) (_:World)=>mX z) o c l p a false v zs w wr)
  case atStart=>exact ⟨0,SF,_,[],rfl,by omega,rfl,hal,rfl,by rw [Gt.out];(cases gK tH (n - 0) l SF <;> rfl),OU.out⟩
  case round =>
   clear OU
   obtain ⟨i,a,v,zs,hgi,hi2,rfl,Ob,hzs,hrr,hms⟩:=hrel
   subst hgi
   obtain ⟨c0,c1,f1⟩:=hms.facts
   have mO:=aA hms
   have HRR:=aA hrr
   have Gn:=aA hzs
   have HK1:Hid (iA l a):=aA ⟨HK.out.by',HK.out.len,Ob⟩
   have i00:(0:Int)≤(i:Int):=by omega
   clear hms hrr hzs
   by_cases hin:i < n
   ·have t1:(i:Int) < (n:Int):=by omega
    have hone:=UF o c l p a false wr HK1.out mO.out.rd (fun b off e h=>by have:=jJ.out b off e h;have:=mO.out.lt;omega)
    have hnk:n - i=(n - (i + 1)) + 1:=by omega
    have hr2:=HRR.out
    rw [hnk,lN] at hr2
    unfold Tt lF at hone
    have hrun:fQ false tH l a=tH l a:=rfl
    rw [hrun] at hone
    obtain ⟨R2,hR2⟩:∃ R2,tH l a=R2:=⟨_,rfl⟩
    rw [hR2] at hone hr2
    have mY:=aA hone
    have HR2:=aA hr2
    clear hone hnk hr2 hR2 HRR hrun
    go_wp2_with fail
    refine mY.out.mono ?_
    rintro e w2 ⟨hg2,x,rfl,hex,hx2⟩
    clear mY
    cases R2 with
    | none =>
     have qD:Hid (r=none):=aA HR2.out
     obtain ⟨a2,ha2,hr2⟩:=hx2
     have hm1:=mO.out.read oH.out (by decide) HP.out hr2 hg2
     obtain ⟨V2,hV2⟩:∃ V,w2.alloc (.cells #[.int .i64 0,.int .i64 0,.int .i64 0,.int .u32 0] 87)=V:=⟨_,rfl⟩
     have r2:dR 87 w2.heap.size #[.int .i64 0,.int .i64 0,.int .i64 0,.int .u32 0] V2:=by rw [←hV2];exact dR.new _ _ _
     obtain ⟨Y2,hY2⟩:∃ V,V2.setRow w2.heap.size (fV x).toArray=V:=⟨_,rfl⟩
     have r3:dR 87 w2.heap.size (fV x).toArray Y2:=by rw [←hY2];exact r2.row _
     have hb2:Below w2.heap.size w2 Y2:=by rw [←hY2,←hV2];exact Below.row ((aI _ _).alloc (aB _) _) (aB _) _
     have hm2:=hm1.up oH.out hb2
     have uB:=oH.out x _ _ hex (fun u _ _ _=>Rows.of_below hb2)
     have uJ:=aA hV2
     have BG:=aA hY2
     have BJ:=aA r2
     have KY:=aA (show Y2.rangeAt w2.heap.size 0 (fV x) from fun j u hj=>by rw [aF _ _ _ _ _ _ r3,bB];simpa using hj)
     have hln:(fV x).length=4:=(by rfl)
     have hi1:=aA (show (Tryz.prog.info? 87).map (·.size)=some (fV x).toArray.size by rw [aL,hln];kernel_rfl)
     have hi2:=aA (show (Tryz.prog.info? 87).map (·.size)=some (fV x).length by rw [hln];kernel_rfl)
     have hi3:=aA (show 4=(fV x).toArray.size by rw [aL,hln])
     have hi4:Hid ((fV x).toArray.all (·.oneCell')=true):=aA (by rw [List.all_toArray,bL];exact fun u hu=>uM x u hu)
     clear hV2 hY2 r2 r3 hb2 hm1 hln
     obtain ⟨d0,d1,e1⟩:=hm2.facts
     obtain ⟨g0,g1,_⟩:=hm2.rd.facts
     have HF:=aA (Pk.gU p true true Y2 g0 g1)
     have lH:=aA (hm2.strike oH.out (by decide) HP.out jJ.out)
     have mM:Hid (TF (fun z:iH=>z) 87 4 fV (fun (z:iH) (_:World)=>mX z) o c l p r w (.returned (.slice none 0 0)) (Y2.setCell ⟨w.heap.size + 1,0,none⟩ (.slice none 0 0))):=aA ⟨lH.out.grow,fun _=>⟨rfl,a2,ha2,lH.out.rd⟩,fun zs a h=>by rw [qD.out] at h;cases h⟩
     clear hr2 hg2 hm2 mO HR2 qD c0 c1 f1 g0 g1
     go_wp2_with (first | (rw [uJ.out]) | (rw [BG.out]) | (refine dQ rfl 87 (.tmp 7) (.tmp 16) rfl w2.heap.size _ _ (fV x).toArray rfl rfl BJ.out hi1.out hi3.out hi4.out ?_))
     refine HF.out.mono ?_
     rintro e w3 ⟨rfl,rfl⟩
     simp only [Pk.fl,if_true]
     go_wp2_with fail
     refine leaves_cons (f:=112) (args:=#[.pointer (some ⟨w.heap.size,0,none⟩),.pointer (some ⟨w.heap.size + 1,0,none⟩)]) (by simp) (by simp [go_sem]) ?_
     refine (rJ ⟨w.heap.size,0,none⟩ ⟨w.heap.size + 1,0,none⟩ _).mono ?_
     rintro e u' w'' ⟨rfl,rfl,rfl⟩
     obtain ⟨_,dr,_⟩:=lH.out.facts
     simp only [Leaves,settle]
     refine ⟨_,(by simp [results,Tryz.results81,go_sem,dr];rfl),?_⟩
     exact mM.out
    | some q2 =>
     obtain ⟨kx,jj⟩:=q2
     obtain ⟨hkx,hjl,hr2⟩:=hx2
     have hm1:=mO.out.read oH.out (by decide) HP.out hr2 hg2
     obtain ⟨V2,hV2⟩:∃ V,w2.alloc (.cells #[.int .i64 0,.int .i64 0,.int .i64 0,.int .u32 0] 87)=V:=⟨_,rfl⟩
     have r2:dR 87 w2.heap.size #[.int .i64 0,.int .i64 0,.int .i64 0,.int .u32 0] V2:=by rw [←hV2];exact dR.new _ _ _
     obtain ⟨Y2,hY2⟩:∃ V,V2.setRow w2.heap.size (fV x).toArray=V:=⟨_,rfl⟩
     have r3:dR 87 w2.heap.size (fV x).toArray Y2:=by rw [←hY2];exact r2.row _
     have hb2:Below w2.heap.size w2 Y2:=by rw [←hY2,←hV2];exact Below.row ((aI _ _).alloc (aB _) _) (aB _) _
     have hm2:=hm1.up oH.out hb2
     have uB:=oH.out x _ _ hex (fun u _ _ _=>Rows.of_below hb2)
     have uJ:=aA hV2
     have BG:=aA hY2
     have BJ:=aA r2
     have KY:=aA (show Y2.rangeAt w2.heap.size 0 (fV x) from fun j u hj=>by rw [aF _ _ _ _ _ _ r3,bB];simpa using hj)
     have hln:(fV x).length=4:=(by rfl)
     have hi1:=aA (show (Tryz.prog.info? 87).map (·.size)=some (fV x).toArray.size by rw [aL,hln];kernel_rfl)
     have hi2:=aA (show (Tryz.prog.info? 87).map (·.size)=some (fV x).length by rw [hln];kernel_rfl)
     have hi3:=aA (show 4=(fV x).toArray.size by rw [aL,hln])
     have hi4:Hid ((fV x).toArray.all (·.oneCell')=true):=aA (by rw [List.all_toArray,bL];exact fun u hu=>uM x u hu)
     clear hV2 hY2 r2 r3 hb2 hm1 hln
     obtain ⟨g0,g1,_⟩:=hm2.rd.facts
     have HF:=aA (Pk.gU p true false Y2 g0 g1)
     obtain ⟨ov,cv,hvv,_,_⟩:=hm2.own.form (fun z _=>rfl)
     subst hvv
     obtain ⟨d0,d1,e1⟩:=hm2.facts
     have Mi:=aA hm2
     have HEX:=aA uB
     have Fj:=aA hkx
     have HJL:=aA hjl
     obtain ⟨V3,sS⟩:∃ V,Y2.alloc (.cells (fV x).toArray 87)=V:=⟨_,rfl⟩
     have hb3:Below Y2.heap.size Y2 V3:=by rw [←sS];exact (aI _ _).alloc (aB _) _
     have TJ:=aA (hm2.up oH.out hb3)
     have HEA:=aA (oH.out x _ _ uB (fun u _ _ _=>Rows.of_below hb3))
     have qD:=aA (show V3.heap[Y2.heap.size]?=some (.cells (fV x).toArray 87 (0,0)) by rw [←sS];exact aG _ _)
     have Fh:Hid ((fV x).toArray.size=4):=aA (by rw [aL];exact (by rfl))
     have LP:=aA sS
     have WW:Hid (w.heap.size + 2≤V3.heap.size):=aA TJ.out.lt
     clear hr2 hg2 hm2 mO c0 c1 f1 g0 g1 hex uB hkx hjl sS hb3
     go_wp2_with (first | (rw [uJ.out]) | (rw [BG.out]) | (refine dQ rfl 87 (.tmp 7) (.tmp 16) rfl w2.heap.size _ _ (fV x).toArray rfl rfl BJ.out hi1.out hi3.out hi4.out ?_))
     refine HF.out.mono ?_
     rintro e w3 ⟨rfl,rfl⟩
     simp only [Pk.fl,if_true,bE,if_false]
     clear HF
     go_wp2_with (first | (rw [LP.out]) | (with_reducible refine eQ (some 21) rfl ?_;refine aA ?_;refine wpList_load_mid rfl 87 (.tmp 7) rfl w2.heap.size 0 rfl (fV x) _ KY.out cZ rfl hi2.out ?_) | (with_reducible refine eQ (some 22) rfl ?_;refine aA ?_;refine lU wG (by omega) rfl (.tmp 21) 71 rfl dK (fV x).toArray rfl Fh.out ?_) | (at_builtin;refine AV wG rfl (.tmp 20) (.tmp 22) 71 rfl dK (w.heap.size + 2) (.slice ov zs.length cv) zs [x] rfl WW.out TJ.out.own (some ⟨Y2.heap.size,0,none⟩) 1 rfl (fun h=>by cases h) (pW qD.out) (fun z hz=>by simp at hz;subst hz;have:=Fh.out;rwa [aL] at this) (fun z _=>uM z) (by have:=Gn.out;have:=HNM.out;simp;omega) ?_))
     intro v' w4 zK hg4
     refine aA ?_
     obtain ⟨rU,Gg⟩:=TJ.out.app oH.out (by decide) HP.out jJ.out zK hg4 (fun z hz=>by
      rcases bU.1 hz with hz | hz
      ·exact TJ.out.el z hz
      ·simp at hz
       subst hz
       exact HEA.out)
     have s0:w4.cell? ⟨w.heap.size + 1,0,none⟩=some (.slice ov zs.length cv):=(aF _ _ 0 _ _ _ rU).trans rfl
     have s1:w4.frozen? ⟨w.heap.size + 1,0,none⟩=false:=dU rU
     obtain ⟨ow,cw,hvw,_,_⟩:=zK.form (fun z _=>rfl)
     subst hvw
     have Ph:=aA Gg
     clear zK hg4 rU Gg d0 d1 e1
     obtain ⟨ml,hml⟩:∃ ml,(zs ++ [x]).length=ml:=⟨_,rfl⟩
     rw [hml] at Ph ⊢
     have XA:=aA hml
     clear hml
     go_wp2_with fail
     go_roundg (n - (i + 1))
     case measure=>omega
     case rel =>
      refine ⟨i + 1,jj,_,zs ++ [x],rfl,by omega,by go_num,HJL.out,by simp [Gn.out],?_,Ph.out⟩
      rw [HR2.out]
      (try dsimp only)
      rw [←Fj.out]
      cases gK tH (n - (i + 1)) l jj with
      | none=>rfl
      | some q=>simp
   ·have t1:¬ (i:Int) < (n:Int):=by omega
    have qC:Hid (r=some (zs.map (fun z:iH=>z),a)):=aA (by
     have:=HRR.out
     rw [show n - i=0 by omega] at this
     rw [this]
     simp [gK])
    obtain ⟨ov,cv,hvv,_,_⟩:=mO.out.own.form (fun z _=>rfl)
    subst hvv
    have hfin:=(mO.out.app oH.out (by decide) HP.out jJ.out mO.out.own (cB _ _) mO.out.el).2
    have lH:=aA hfin
    have mM:Hid (TF (fun z:iH=>z) 87 4 fV (fun (z:iH) (_:World)=>mX z) o c l p r w (.returned (.slice ov zs.length cv)) (wr.setCell ⟨w.heap.size + 1,0,none⟩ (.slice ov zs.length cv))):=aA ⟨hfin.grow,(fun h=>by rw [qC.out] at h;cases h),fun ks' a' h=>by rw [qC.out] at h;cases h;exact ⟨⟨_,zs,rfl,hfin.own.base (by omega),hfin.el,rfl⟩,Ob,hfin.rd⟩⟩
    clear HRR mO hfin qC
    go_wp2_with fail
    refine leaves_cons (f:=112) (args:=#[.pointer (some ⟨w.heap.size,0,none⟩),.pointer (some ⟨w.heap.size + 1,0,none⟩)]) (by simp) (by simp [go_sem]) ?_
    refine (rJ ⟨w.heap.size,0,none⟩ ⟨w.heap.size + 1,0,none⟩ _).mono ?_
    rintro e u' w'' ⟨rfl,rfl,rfl⟩
    obtain ⟨_,dr,_⟩:=lH.out.facts
    simp only [Leaves,settle]
    refine ⟨_,(by simp [results,Tryz.results81,go_sem,dr];rfl),?_⟩
    exact mM.out
end Fx
end Go.Proofs.YtbbhmhihpdmoiaaGreat
