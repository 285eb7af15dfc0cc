import Derived.Test.YtbbhmhihpdmoiaaGreatJr35
set_option linter.unusedVariables false
set_option linter.unusedSimpArgs false
set_option maxRecDepth 100000
set_option maxHeartbeats 32000000
namespace Go.Proofs.YtbbhmhihpdmoiaaGreat
namespace Fx
open Go Go.RowKit
open Pk (PR iA Bs)
theorem rM (a b:Addr) (w:World) :
  CallsD Tryz.prog 75 #[.pointer (some a),.pointer (some b)] .returning w fun e u' w'=>e=.returned (.tuple #[])∧u'=.returning∧w'=w:=by
 refine callsD_of_wpS Tryz.func75 rfl fun c₀ cs hu=>?_
 apply wpS_seq
 apply wpS_region
 simp [wpOpsS,go_sem,recoverD,hu,Tryz.ntmps75,Exit.thenS]
 refine wpS_cond (t:=false) (by simp [Act.eval,Array.replicate]) ?_
 simp only [bE,if_false]
 refine wpS_of_wp (wp_skip ?_)
 cases c₀
 simp_all [bodyPostS,results,Tryz.results75]
theorem Iw (B:Nat) (o:Option Addr) (c:Nat) (l:List Nat) (p eH:Nat) (lost:Bool) (w:World) (hB:B≤w.heap.size) (k:iA l eH) (h:PR o c l p eH lost w) (iQ:∀ b off,o=some ⟨b,off,none⟩→0 < l.length→b < w.heap.size) :
  Calls Tryz.prog 42 #[.pointer (some ⟨p,0,none⟩),.int .i64 16,.func (.func 43) #[] #[]] w (TF jC 73 19 eF (iM B) o c l p (fQ lost (jA 16 nJ) l eH) w):=by
 have hel:OW 73 26 (iM B):=fun z W X h hR=>h.rows (hR _ (by decide) (by decide) (by decide)) (hR _ (by decide) (by decide) (by decide))
 have oH:=aA hel
 have hmf:∀ (fn:Fn) (first cap:Array Value) (w:World),(Instr.makeFunc fn first cap).run Tryz.prog w=.ok (.func fn first cap) w:=fun _ _ _ _=>rfl
 have hp:=h.lt
 obtain ⟨W1,hW1⟩:∃ W1,(w.alloc (.cells #[.pointer (some ⟨p,0,none⟩)] 90)).alloc (.cells #[.slice none 0 0] 26)=W1:=⟨_,rfl⟩
 have hb1:Below w.heap.size w W1:=by rw [←hW1];exact ((aI _ w).alloc (aB _) _).alloc (by simp) _
 have hs:=Pk.oC o c l p eH 16 lost W1 k (by omega) (h.below hb1)
 have hms:BS 73 26 19 eF (iM B) o c l p eH lost (.slice none 0 0) [] w W1:=by
  refine ⟨?_,?_,h.below hb1,iD.nil _ _ _ _ _,fun z hz=>by simp at hz,Pk.below_grown hb1 (some p)⟩
  ·rw [←hW1];exact dW (aG _ _)
  ·rw [←hW1]
   have:=aG (w.alloc (.cells #[.pointer (some ⟨p,0,none⟩)] 90)) (.cells #[.slice none 0 0] 26)
   rw [aR] at this
   exact this
 have HS:=aA hs
 have mO:=aA hms
 have HK:=aA k
 have HP:=aA hp
 have jJ:=aA iQ
 have HW1:=aA hW1
 have HB:=aA hB
 clear hs hms h iQ hb1 hW1 k hp hel hB
 have hse:=nD (lost:=lost) (most:=16) (l:=l) (a:=eH)
 obtain ⟨R,hR⟩:∃ R,Pk.rz lost (16:Int) (l.drop eH)=R:=⟨_,rfl⟩
 have hR':Pk.rz lost ((16:Nat):Int) (l.drop eH)=R:=hR
 rw [hR] at HS
 rw [hR'] at hse
 obtain ⟨r,hr⟩:∃ r,fQ lost (jA 16 nJ) l eH=r:=⟨_,rfl⟩
 have LQ:Hid (r=match R.map (fun q=>((q.1:Int),eH + q.2)) with | none=>none | some (n,b)=>gK nJ n.toNat l b):=aA (by
  rw [←hr,hse]
  unfold fQ jA
  cases lost <;> rfl)
 have Pg:Hid (∀ q,R=some q→q.1≤16∧eH + q.2≤l.length):=aA (fun q hq=>by
  rw [hq] at hse
  simp only [Option.map_some] at hse
  unfold fQ at hse
  split at hse
  ·cases hse
  ·have:=JJ HK.out.at' hse.symm
   omega)
 rw [hr]
 clear hR hR' hse hr
 cases R with
 | none =>
  have hrn:r=none:=LQ.out
  subst hrn
  go_enter_defers Tryz.func42,Tryz.ntmps42
  go_wp2_with fail
  rw [HW1.out]
  refine HS.out.mono ?_
  rintro e w1 ⟨rfl,hr1,hg1⟩
  simp only [Pk.qU,Pk.XJ,Pk.XI,Option.isNone_none] at hr1 ⊢
  have hm1:=mO.out.read oH.out (by decide) HP.out hr1 hg1
  obtain ⟨c0,c1,f1⟩:=hm1.facts
  have lH:=aA (hm1.strike oH.out (by decide) HP.out jJ.out)
  have mM:Hid (TF jC 73 19 eF (iM B) o c l p none w (.returned (.slice none 0 0)) (w1.setCell ⟨w.heap.size + 1,0,none⟩ (.slice none 0 0))):=aA ⟨lH.out.grow,fun _=>⟨rfl,eH,HK.out.at',lH.out.rd⟩,fun zs a h=>by cases h⟩
  clear hr1 hg1 hm1 HS mO
  go_wp2_with fail
  go_loopg [12] 0 (fun g s12 wr=>g=0∧s12=.int .i64 0∧wr=w1)
  case atStart=>exact ⟨rfl,rfl,rfl⟩
  case round =>
   obtain ⟨_,rfl,rfl⟩:=hrel
   go_wp2_with fail
   refine leaves_cons (f:=75) (args:=#[.pointer (some ⟨w.heap.size,0,none⟩),.pointer (some ⟨w.heap.size + 1,0,none⟩)]) (by simp) (by simp [go_sem]) ?_
   refine (rM ⟨w.heap.size,0,none⟩ ⟨w.heap.size + 1,0,none⟩ _).mono ?_
   rintro e u' w'' ⟨rfl,rfl,rfl⟩
   obtain ⟨_,dr,_⟩:=lH.out.facts
   simp only [Leaves,settle]
   refine ⟨_,(by simp [results,Tryz.results42,go_sem,dr];rfl),?_⟩
   exact mM.out
 | some q =>
  obtain ⟨n,j⟩:=q
  have hrm:r=gK nJ n l (eH + j):=LQ.out
  obtain ⟨hnm,hal⟩:=Pg.out (n,j) rfl
  dsimp only at hnm hal
  obtain ⟨SF,zP⟩:∃ SF,eH + j=SF:=⟨_,rfl⟩
  rw [zP] at hrm hal
  have Gt:=aA hrm
  have HAT:=aA zP
  have HNM:=aA hnm
  have n0:(0:Int)≤(n:Int):=by omega
  have n9:(n:Int)≤16:=by omega
  clear LQ Pg hrm hnm zP
  go_enter_defers Tryz.func42,Tryz.ntmps42
  go_wp2_with fail
  rw [HW1.out]
  refine HS.out.mono ?_
  rintro e w1 ⟨rfl,hr1,hg1⟩
  simp only [Pk.qU,Pk.XJ,Pk.XI,Option.isNone_some] at hr1 ⊢
  rw [HAT.out] at hr1
  have OU:=aA (mO.out.read oH.out (by decide) HP.out hr1 hg1)
  clear hr1 hg1 HS mO
  go_wp2_with fail
  go_loopg [7,12] n (fun g s7 s12 wr=>∃ (i a:Nat) (v:Value) (zs:List fE),g=n - i∧i≤n∧s12=.int .i64 (i:Int)∧a≤l.length∧zs.length=i∧r=(gK nJ (n - i) l a).map (fun q=>(zs.map jC ++ q.1,q.2))∧BS 73 26 19 eF (iM B) o c l p a false v zs w wr)
  case atStart=>exact ⟨0,SF,_,[],rfl,by omega,rfl,hal,rfl,by rw [Gt.out];(cases gK nJ (n - 0) l SF <;> rfl),OU.out⟩
  case round =>
   clear OU
   obtain ⟨i,a,v,zs,hgi,hi2,rfl,Ob,hzs,hrr,hms⟩:=hrel
   subst hgi
   obtain ⟨c0,c1,f1⟩:=hms.facts
   have mO:=aA hms
   have HRR:=aA hrr
   have Gn:=aA hzs
   have HK1:Hid (iA l a):=aA ⟨HK.out.by',HK.out.len,Ob⟩
   have i00:(0:Int)≤(i:Int):=by omega
   clear hms hrr hzs
   by_cases hin:i < n
   ·have t1:(i:Int) < (n:Int):=by omega
    have hone:=UG B o c l p a false wr (by have:=HB.out;have:=mO.out.lt;omega) HK1.out mO.out.rd (fun b off e h=>by have:=jJ.out b off e h;have:=mO.out.lt;omega)
    have hnk:n - i=(n - (i + 1)) + 1:=by omega
    have hr2:=HRR.out
    rw [hnk,lN] at hr2
    unfold Tv lF at hone
    have hrun:fQ false nJ l a=nJ l a:=rfl
    rw [hrun] at hone
    obtain ⟨R2,hR2⟩:∃ R2,nJ l a=R2:=⟨_,rfl⟩
    rw [hR2] at hone hr2
    have mY:=aA hone
    have HR2:=aA hr2
    clear hone hnk hr2 hR2 HRR hrun
    go_wp2_with fail
    refine mY.out.mono ?_
    rintro e w2 ⟨hg2,x,rfl,hex,hx2⟩
    clear mY
    cases R2 with
    | none =>
     have qD:Hid (r=none):=aA HR2.out
     obtain ⟨a2,ha2,hr2⟩:=hx2
     have hm1:=mO.out.read oH.out (by decide) HP.out hr2 hg2
     obtain ⟨V2,hV2⟩:∃ V,w2.alloc (.cells #[.int .i64 0,.int .i64 0,.int .i64 0,.int .i64 0,.int .i64 0,.int .i64 0,.int .i64 0,.int .i64 0,.int .i64 0,.int .i64 0,.int .i64 0,.int .i64 0,.int .i64 0,.int .i64 0,.int .i64 0,.int .i64 0,.int .i64 0,.slice none 0 0,.slice none 0 0] 73)=V:=⟨_,rfl⟩
     have r2:dR 73 w2.heap.size #[.int .i64 0,.int .i64 0,.int .i64 0,.int .i64 0,.int .i64 0,.int .i64 0,.int .i64 0,.int .i64 0,.int .i64 0,.int .i64 0,.int .i64 0,.int .i64 0,.int .i64 0,.int .i64 0,.int .i64 0,.int .i64 0,.int .i64 0,.slice none 0 0,.slice none 0 0] V2:=by rw [←hV2];exact dR.new _ _ _
     obtain ⟨Y2,hY2⟩:∃ V,V2.setRow w2.heap.size (eF x).toArray=V:=⟨_,rfl⟩
     have r3:dR 73 w2.heap.size (eF x).toArray Y2:=by rw [←hY2];exact r2.row _
     have hb2:Below w2.heap.size w2 Y2:=by rw [←hY2,←hV2];exact Below.row ((aI _ _).alloc (aB _) _) (aB _) _
     have hm2:=hm1.up oH.out hb2
     have uB:=oH.out x _ _ hex (fun u _ _ _=>Rows.of_below hb2)
     have uJ:=aA hV2
     have BG:=aA hY2
     have BJ:=aA r2
     have KY:=aA (show Y2.rangeAt w2.heap.size 0 (eF x) from fun j u hj=>by rw [aF _ _ _ _ _ _ r3,bB];simpa using hj)
     have hln:(eF x).length=19:=(eZ hex.wf)
     have hi1:=aA (show (Tryz.prog.info? 73).map (·.size)=some (eF x).toArray.size by rw [aL,hln];kernel_rfl)
     have hi2:=aA (show (Tryz.prog.info? 73).map (·.size)=some (eF x).length by rw [hln];kernel_rfl)
     have hi3:=aA (show 19=(eF x).toArray.size by rw [aL,hln])
     have hi4:Hid ((eF x).toArray.all (·.oneCell')=true):=aA (by rw [List.all_toArray,bL];exact fun u hu=>oQ x u hu)
     clear hV2 hY2 r2 r3 hb2 hm1 hln
     obtain ⟨d0,d1,e1⟩:=hm2.facts
     obtain ⟨g0,g1,_⟩:=hm2.rd.facts
     have HF:=aA (Pk.gU p true true Y2 g0 g1)
     have lH:=aA (hm2.strike oH.out (by decide) HP.out jJ.out)
     have mM:Hid (TF jC 73 19 eF (iM B) o c l p r w (.returned (.slice none 0 0)) (Y2.setCell ⟨w.heap.size + 1,0,none⟩ (.slice none 0 0))):=aA ⟨lH.out.grow,fun _=>⟨rfl,a2,ha2,lH.out.rd⟩,fun zs a h=>by rw [qD.out] at h;cases h⟩
     clear hr2 hg2 hm2 mO HR2 qD c0 c1 f1 g0 g1
     go_wp2_with (first | (rw [uJ.out]) | (rw [BG.out]) | (refine dQ rfl 73 (.tmp 7) (.tmp 16) rfl w2.heap.size _ _ (eF x).toArray rfl rfl BJ.out hi1.out hi3.out hi4.out ?_))
     refine HF.out.mono ?_
     rintro e w3 ⟨rfl,rfl⟩
     simp only [Pk.fl,if_true]
     go_wp2_with fail
     refine leaves_cons (f:=75) (args:=#[.pointer (some ⟨w.heap.size,0,none⟩),.pointer (some ⟨w.heap.size + 1,0,none⟩)]) (by simp) (by simp [go_sem]) ?_
     refine (rM ⟨w.heap.size,0,none⟩ ⟨w.heap.size + 1,0,none⟩ _).mono ?_
     rintro e u' w'' ⟨rfl,rfl,rfl⟩
     obtain ⟨_,dr,_⟩:=lH.out.facts
     simp only [Leaves,settle]
     refine ⟨_,(by simp [results,Tryz.results42,go_sem,dr];rfl),?_⟩
     exact mM.out
    | some q2 =>
     obtain ⟨kx,jj⟩:=q2
     obtain ⟨hkx,hjl,hr2⟩:=hx2
     have hm1:=mO.out.read oH.out (by decide) HP.out hr2 hg2
     obtain ⟨V2,hV2⟩:∃ V,w2.alloc (.cells #[.int .i64 0,.int .i64 0,.int .i64 0,.int .i64 0,.int .i64 0,.int .i64 0,.int .i64 0,.int .i64 0,.int .i64 0,.int .i64 0,.int .i64 0,.int .i64 0,.int .i64 0,.int .i64 0,.int .i64 0,.int .i64 0,.int .i64 0,.slice none 0 0,.slice none 0 0] 73)=V:=⟨_,rfl⟩
     have r2:dR 73 w2.heap.size #[.int .i64 0,.int .i64 0,.int .i64 0,.int .i64 0,.int .i64 0,.int .i64 0,.int .i64 0,.int .i64 0,.int .i64 0,.int .i64 0,.int .i64 0,.int .i64 0,.int .i64 0,.int .i64 0,.int .i64 0,.int .i64 0,.int .i64 0,.slice none 0 0,.slice none 0 0] V2:=by rw [←hV2];exact dR.new _ _ _
     obtain ⟨Y2,hY2⟩:∃ V,V2.setRow w2.heap.size (eF x).toArray=V:=⟨_,rfl⟩
     have r3:dR 73 w2.heap.size (eF x).toArray Y2:=by rw [←hY2];exact r2.row _
     have hb2:Below w2.heap.size w2 Y2:=by rw [←hY2,←hV2];exact Below.row ((aI _ _).alloc (aB _) _) (aB _) _
     have hm2:=hm1.up oH.out hb2
     have uB:=oH.out x _ _ hex (fun u _ _ _=>Rows.of_below hb2)
     have uJ:=aA hV2
     have BG:=aA hY2
     have BJ:=aA r2
     have KY:=aA (show Y2.rangeAt w2.heap.size 0 (eF x) from fun j u hj=>by rw [aF _ _ _ _ _ _ r3,bB];simpa using hj)
     have hln:(eF x).length=19:=(eZ hex.wf)
     have hi1:=aA (show (Tryz.prog.info? 73).map (·.size)=some (eF x).toArray.size by rw [aL,hln];kernel_rfl)
     have hi2:=aA (show (Tryz.prog.info? 73).map (·.size)=some (eF x).length by rw [hln];kernel_rfl)
     have hi3:=aA (show 19=(eF x).toArray.size by rw [aL,hln])
     have hi4:Hid ((eF x).toArray.all (·.oneCell')=true):=aA (by rw [List.all_toArray,bL];exact fun u hu=>oQ x u hu)
     clear hV2 hY2 r2 r3 hb2 hm1 hln
     obtain ⟨g0,g1,_⟩:=hm2.rd.facts
     have HF:=aA (Pk.gU p true false Y2 g0 g1)
     obtain ⟨ov,cv,hvv,_,_⟩:=hm2.own.form (fun z hz=>eZ (hm2.el z hz).wf)
     subst hvv
     obtain ⟨d0,d1,e1⟩:=hm2.facts
     have Mi:=aA hm2
     have HEX:=aA uB
     have Fj:=aA hkx
     have HJL:=aA hjl
     obtain ⟨V3,sS⟩:∃ V,Y2.alloc (.cells (eF x).toArray 73)=V:=⟨_,rfl⟩
     have hb3:Below Y2.heap.size Y2 V3:=by rw [←sS];exact (aI _ _).alloc (aB _) _
     have TJ:=aA (hm2.up oH.out hb3)
     have HEA:=aA (oH.out x _ _ uB (fun u _ _ _=>Rows.of_below hb3))
     have qD:=aA (show V3.heap[Y2.heap.size]?=some (.cells (eF x).toArray 73 (0,0)) by rw [←sS];exact aG _ _)
     have Fh:Hid ((eF x).toArray.size=19):=aA (by rw [aL];exact (eZ uB.wf))
     have LP:=aA sS
     have WW:Hid (w.heap.size + 2≤V3.heap.size):=aA TJ.out.lt
     clear hr2 hg2 hm2 mO c0 c1 f1 g0 g1 hex uB hkx hjl sS hb3
     go_wp2_with (first | (rw [uJ.out]) | (rw [BG.out]) | (refine dQ rfl 73 (.tmp 7) (.tmp 16) rfl w2.heap.size _ _ (eF x).toArray rfl rfl BJ.out hi1.out hi3.out hi4.out ?_))
     refine HF.out.mono ?_
     rintro e w3 ⟨rfl,rfl⟩
     simp only [Pk.fl,if_true,bE,if_false]
     clear HF
     go_wp2_with (first | (rw [LP.out]) | (with_reducible refine eQ (some 21) rfl ?_;refine aA ?_;refine wpList_load_mid rfl 73 (.tmp 7) rfl w2.heap.size 0 rfl (eF x) _ KY.out bV rfl hi2.out ?_) | (with_reducible refine eQ (some 22) rfl ?_;refine aA ?_;refine lU FM (by omega) rfl (.tmp 21) 26 rfl Tryz.underlying26 (eF x).toArray rfl Fh.out ?_) | (at_builtin;refine AV FM rfl (.tmp 20) (.tmp 22) 26 rfl Tryz.underlying26 (w.heap.size + 2) (.slice ov zs.length cv) zs [x] rfl WW.out TJ.out.own (some ⟨Y2.heap.size,0,none⟩) 1 rfl (fun h=>by cases h) (pW qD.out) (fun z hz=>by simp at hz;subst hz;have:=Fh.out;rwa [aL] at this) (fun z _=>oQ z) (by have:=Gn.out;have:=HNM.out;simp;omega) ?_))
     intro v' w4 zK hg4
     refine aA ?_
     obtain ⟨rU,Gg⟩:=TJ.out.app oH.out (by decide) HP.out jJ.out zK hg4 (fun z hz=>by
      rcases bU.1 hz with hz | hz
      ·exact TJ.out.el z hz
      ·simp at hz
       subst hz
       exact HEA.out)
     have s0:w4.cell? ⟨w.heap.size + 1,0,none⟩=some (.slice ov zs.length cv):=(aF _ _ 0 _ _ _ rU).trans rfl
     have s1:w4.frozen? ⟨w.heap.size + 1,0,none⟩=false:=dU rU
     obtain ⟨ow,cw,hvw,_,_⟩:=zK.form (fun z hz=>eZ (Gg.el z hz).wf)
     subst hvw
     have Ph:=aA Gg
     clear zK hg4 rU Gg d0 d1 e1
     obtain ⟨ml,hml⟩:∃ ml,(zs ++ [x]).length=ml:=⟨_,rfl⟩
     rw [hml] at Ph ⊢
     have XA:=aA hml
     clear hml
     go_wp2_with fail
     go_roundg (n - (i + 1))
     case measure=>omega
     case rel =>
      refine ⟨i + 1,jj,_,zs ++ [x],rfl,by omega,by go_num,HJL.out,by simp [Gn.out],?_,Ph.out⟩
      rw [HR2.out]
      (try dsimp only)
      rw [←Fj.out]
      cases gK nJ (n - (i + 1)) l jj with
      | none=>rfl
      | some q=>simp
   ·have t1:¬ (i:Int) < (n:Int):=by omega
    have qC:Hid (r=some (zs.map jC,a)):=aA (by
     have:=HRR.out
     rw [show n - i=0 by omega] at this
     rw [this]
     simp [gK])
    obtain ⟨ov,cv,hvv,_,_⟩:=mO.out.own.form (fun z hz=>eZ (mO.out.el z hz).wf)
    subst hvv
    have hfin:=(mO.out.app oH.out (by decide) HP.out jJ.out mO.out.own (cB _ _) mO.out.el).2
    have lH:=aA hfin
    have mM:Hid (TF jC 73 19 eF (iM B) o c l p r w (.returned (.slice ov zs.length cv)) (wr.setCell ⟨w.heap.size + 1,0,none⟩ (.slice ov zs.length cv))):=aA ⟨hfin.grow,(fun h=>by rw [qC.out] at h;cases h),fun ks' a' h=>by rw [qC.out] at h;cases h;exact ⟨⟨_,zs,rfl,hfin.own.base (by omega),hfin.el,rfl⟩,Ob,hfin.rd⟩⟩
    clear HRR mO hfin qC
    go_wp2_with fail
    refine leaves_cons (f:=75) (args:=#[.pointer (some ⟨w.heap.size,0,none⟩),.pointer (some ⟨w.heap.size + 1,0,none⟩)]) (by simp) (by simp [go_sem]) ?_
    refine (rM ⟨w.heap.size,0,none⟩ ⟨w.heap.size + 1,0,none⟩ _).mono ?_
    rintro e u' w'' ⟨rfl,rfl,rfl⟩
    obtain ⟨_,dr,_⟩:=lH.out.facts
    simp only [Leaves,settle]
    refine ⟨_,(by simp [results,Tryz.results42,go_sem,dr];rfl),?_⟩
    exact mM.out
end Fx
namespace Fx
open Go Go.RowKit Go.Lib
open Pk (Bs By PR)
theorem Dv {a b:List Nat} (ha:By a) (hb:By b) (h:Pk.iP a=Pk.iP b):a=b:=by
 unfold Pk.iP at h
 have h1:a.map UInt8.ofNat=b.map UInt8.ofNat:=by
  have:=congrArg (fun x:ByteArray=>x.data.toList) h
  simpa using this
 have h2:=congrArg (List.map UInt8.toNat) h1
 rw [List.map_map,List.map_map] at h2
 have e:∀ l:List Nat,By l→l.map (UInt8.toNat ∘ UInt8.ofNat)=l:=fun l hl=>by
  conv=>rhs;rw [←List.map_id l]
  refine List.map_congr_left fun c hc=>?_
  have:=hl c hc
  simp
  omega
 rw [e a ha,e b hb] at h2
 exact h2
theorem toList_inj {a b:ByteArray} (h:a.toList=b.toList):a=b:=by
 have h1:a.data.toList=b.data.toList:=by
  simpa [ByteArray.toList_eq] using h
 cases a
 cases b
 congr 1
 exact Array.toList_inj.1 h1
theorem KL {a b:List Nat} (ha:By a) (hb:By b):((Pk.iP a).toList == (Pk.iP b).toList)=decide (a=b):=by
 by_cases e:a=b
 ·subst e
  simp
 ·rw [aN e,beq_eq_false_iff_ne]
  exact fun h=>e (Dv ha hb (toList_inj h))
theorem VP (a b:List Nat) (oa ob:Option Addr) (ca cb:Nat) (w:World) (ha:By a) (hb:By b) (h1:Bs w oa a) (h2:Bs w ob b) :
  Calls Tryz.prog 136 #[.slice oa a.length ca,.slice ob b.length cb] w (gH (decide (a=b)) w):=by
 have q1:=Pk.sW (W:=w) ca rfl h1
 have q2:=Pk.sW (W:=w) cb rfl h2
 have q3:=KL ha hb
 generalize a.length=na at q1 ⊢
 generalize b.length=nb at q2 ⊢
 generalize decide (a=b)=r at q3 ⊢
 generalize Pk.iP a=sa at q1 q3
 generalize Pk.iP b=sb at q2 q3
 clear ha hb h1 h2
 go_enter Tryz.func136,Tryz.ntmps136
 go_wp2_with fail
 go_ret
 exact ⟨by rw [←q3];rfl,aI _ _⟩
end Fx
namespace Fx
open Go Go.RowKit Go.Lib
open Pk (Bs By PR iK)
theorem fP {ops:Array Oper} {rest:List Oper} {o:Oper} {a:Act} {Q:Exit→Act→World→Prop} {W:World} (hgd:o.guard=none) (v:Value) (X:World) (hrun:(execOp a.eval o).run Tryz.prog W=.ok (.value v) X)
  (h:wpList Tryz.prog ops Q rest (a.put o.dst v) X):wpList Tryz.prog ops Q (o :: rest) a W:=by
 refine wpList_plain hgd fun K hK'=>?_
 unfold Oper.wp
 rw [hrun]
 exact hK' _ _ h
theorem Cm (l m:List Nat) (o q:Option Addr) (c d:Nat) (w:World) (hl:By l) (hm:By m) (hb:Bs w o l) (hq:Bs w q m) (hc:l.length≤c∧c≤9223372036854775807) (hd:m.length≤d∧d≤9223372036854775807) :
  Calls Tryz.prog 107 #[.slice o l.length c,.slice q m.length d] w (gH (decide (l.take m.length=m)) w):=by
 by_cases hlt:l.length < m.length
 ·have e:decide (l.take m.length=m)=false:=aN (fun h=>by have:=congrArg List.length h;rw [bZ] at this;omega)
  rw [e]
  have t1:¬ (m.length:Int)≤(l.length:Int):=by omega
  clear e hl hm hb hq hlt
  generalize l.length=n at *
  generalize m.length=k at *
  go_enter Tryz.func107,Tryz.ntmps107
  go_wp2_with fail
  go_ret
  exact ⟨rfl,aI _ _⟩
 ·have t1:(m.length:Int)≤(l.length:Int):=by omega
  have hlen:(l.take m.length).length=m.length:=by rw [bZ];omega
  have he:=VP (l.take m.length) m o q c d w (fun x hx=>hl x (dL hx)) hm (hb.take _) hq
  rw [hlen] at he
  have HE:=aA he
  have t2:(m.length:Int)≤(c:Int):=by omega
  have t3:(0:Int)≤(m.length:Int):=by omega
  have t4:(c:Int)≤9223372036854775807:=by omega
  have t5:m.length≤c:=by omega
  generalize decide (l.take m.length=m)=r at HE ⊢
  clear he hlen hlt hl hm hb hq hc hd
  generalize l.length=n at *
  generalize m.length=k at *
  go_enter Tryz.func107,Tryz.ntmps107
  go_wp2_with fail
  refine HE.out.mono ?_
  rintro e w1 ⟨rfl,hb1⟩
  have HB:=aA hb1
  clear hb1 HE
  go_wp2_with fail
  go_ret
  exact ⟨rfl,HB.out⟩
def GJ (l m:List Nat) (o:Option Addr) (c:Nat) (w:World) (e:Ending) (w':World):Prop :=
 e=.returned (if l.take m.length=m then .tuple #[.slice (iK o c m.length) (l.length - m.length) (c - m.length),.bool true] else .tuple #[.slice o l.length c,.bool false])∧Below w.heap.size w w'
theorem Dn (l m:List Nat) (o q:Option Addr) (c d:Nat) (w:World) (hl:By l) (hm:By m) (hb:Bs w o l) (hq:Bs w q m) (hc:l.length≤c∧c≤9223372036854775807) (hd:m.length≤d∧d≤9223372036854775807) (hn:o=none→c=0) (hs:0 < c→∀ a,o=some a→a.spot=none) :
  Calls Tryz.prog 72 #[.slice o l.length c,.slice q m.length d] w (GJ l m o c w):=by
 have HH:=aA (Cm l m o q c d w hl hm hb hq hc hd)
 have HC:=aA hc
 have HN:=aA hn
 have HS:=aA hs
 by_cases h:l.take m.length=m
 ·have hle:m.length≤l.length:=by
   have:=congrArg List.length h
   rw [bZ] at this
   omega
  have HLE:=aA hle
  have HR:Hid (∀ w',Below w.heap.size w w'→GJ l m o c w (.returned (.tuple #[.slice (iK o c m.length) (l.length - m.length) (c - m.length),.bool true])) w'):=aA (fun w' hb=>⟨by rw [aT h],hb⟩)
  rw [aV h] at HH
  clear h hl hm hb hq hc hd hn hs hle
  generalize l.length=n at *
  generalize m.length=k at *
  go_enter Tryz.func72,Tryz.ntmps72
  go_wp2_with fail
  refine HH.out.mono ?_
  rintro e w1 ⟨rfl,hb1⟩
  have HB:=aA hb1
  clear hb1 HH
  go_wp2_with (with_reducible refine eQ (some 14) rfl ?_;refine aA ?_;refine fP rfl (.slice (iK o c k) (n - k) (c - k)) w1 (Pk.rW (.tmp 11) (.tmp 13) rfl o n c k (k:Int) rfl rfl rfl HLE.out HC.out.1 HN.out HS.out) ?_)
  go_ret2
  exact HR.out _ HB.out
 ·have HR:Hid (∀ w',Below w.heap.size w w'→GJ l m o c w (.returned (.tuple #[.slice o l.length c,.bool false])) w'):=aA (fun w' hb=>⟨by rw [aX h],hb⟩)
  rw [aN h] at HH
  clear h hl hm hb hq hc hd hn hs
  generalize l.length=n at *
  generalize m.length=k at *
  go_enter Tryz.func72,Tryz.ntmps72
  go_wp2_with fail
  refine HH.out.mono ?_
  rintro e w1 ⟨rfl,hb1⟩
  have HB:=aA hb1
  clear hb1 HH
  go_wp2_with fail
  go_ret2
  exact HR.out _ HB.out
def behind (mk l:List Nat):Option (List Nat):=match Cx.opened l with
 | none=>none
 | some m=>if m.take mk.length=mk then some (m.drop mk.length) else none
def jZ (mk l:List Nat):Int:=match Cx.opened l with
 | none=>40
 | some m=>if m.take mk.length=mk then 0 else 70
def EF (mk l:List Nat) (w:World) (e:Ending) (w':World):Prop:=Below w.heap.size w w'∧match behind mk l with
 | none=>e=.returned (.tuple #[.pointer none,.int .i64 (jZ mk l)])
 | some r=>∃ p o c,e=.returned (.tuple #[.pointer (some ⟨p,0,none⟩),.int .i64 0])∧PR o c r p 0 false w'∧w.heap.size≤p∧(∀ b off,o=some ⟨b,off,none⟩→w.heap.size≤b)
theorem sP {l m:List Nat} (hl:By l) (h:Cx.opened l=some m):By m∧m.length + 4=l.length:=by
 unfold Cx.opened at h
 split at h
 ·rename_i hc
  cases h
  exact ⟨fun x hx=>hl x (dL hx),by rw [bZ];omega⟩
 ·cases h
theorem wV (mk:List Nat) (hmk:By mk) (hml:mk.length≤100) (l:List Nat) (o:Option Addr) (c:Nat) (w:World) (hl:By l) (hlen:l.length≤900000) (hc:l.length≤c) (hc2:c≤9223372036854775807) (hb:Bs w o l) :
  Calls Tryz.prog 40 #[.string (Pk.iP mk),.slice o l.length c] w (EF mk l w):=by
 have HO:=aA (Cx.Am l l.length rfl o c w (Od hl) hlen hc hc2 (Oe hb))
 have HMK:=aA hmk
 have XA:=aA hml
 have yH:=aA (fun m (h:Cx.opened l=some m)=>sP hl h)
 have BU:=aA hlen
 obtain ⟨R,hR⟩:∃ R,Cx.opened l=R:=⟨_,rfl⟩
 have oO:Hid (Cx.opened l=R):=aA hR
 rw [hR] at HO
 clear hmk hml hl hlen hc hc2 hb hR
 cases R with
 | none =>
  have HE:Hid (∀ w',Below w.heap.size w w'→EF mk l w (.returned (.tuple #[.pointer none,.int .i64 40])) w'):=aA (fun w' hb=>⟨hb,by
   have e:behind mk l=none:=by unfold behind;rw [oO.out]
   have e2:jZ mk l=40:=by unfold jZ;rw [oO.out]
   rw [e,e2]⟩)
  go_enter Tryz.func40,Tryz.ntmps40
  go_wp2_with fail
  refine HO.out.mono ?_
  rintro e w1 ⟨⟨v1,rfl,ho⟩,hb1⟩
  have HB:=aA hb1
  rw [show Cx.erO none=40 from rfl]
  clear hb1 ho HO
  go_wp2_with fail
  go_ret2
  exact HE.out _ HB.out
 | some m =>
  obtain ⟨hby,hml⟩:=yH.out m oO.out
  go_enter Tryz.func40,Tryz.ntmps40
  go_wp2_with fail
  refine HO.out.mono ?_
  rintro e w1 ⟨⟨v1,rfl,ho⟩,hb1⟩
  rw [show Cx.erO (some m)=0 from rfl]
  have ho':Pk.Own w1 w.heap.size v1 m:=Ah ho
  obtain ⟨o1,c1,rfl,hbs,hc1,hc2,hn1,hsp⟩:=ho'.open
  have hcv:(convert 9 31 (.string (Pk.iP mk))).run Tryz.prog w1=.ok (.slice (some ⟨w1.heap.size,0,none⟩) (Pk.iP mk).size (grownCap w1 (Pk.iP mk).size 0 5)) (bytesWorld w1 5 (Pk.iP mk)):=Go.Lib.run_convert_string_bytes w1 _ _ _ _ Tryz.underlying9 bS dM
  rw [sZ] at hcv
  have hge:mk.length≤grownCap w1 mk.length 0 5:=grownCap_ge w1 mk.length 0 5
  have hgm:grownCap w1 mk.length 0 5≤9223372036854775807:=by
   have:=grownCap_le_maxLen w1 mk.length 0 5 (by unfold maxLen;have:=XA.out;omega)
   unfold maxLen at this
   omega
  have hbw:=bytesWorld_below w1 5 (Pk.iP mk)
  have hmb:Bs (bytesWorld w1 5 (Pk.iP mk)) (some ⟨w1.heap.size,0,none⟩) mk:=fun j hj=>⟨_,_,rfl,by rw [bB,bytesWorld_cell _ _ _ _ (by rw [sZ];exact hj),Lc HMK.out hj]⟩
  have Jv:=hbs.below hbw
  obtain ⟨cp,hcp⟩:∃ c,grownCap w1 mk.length 0 5=c:=⟨_,rfl⟩
  obtain ⟨W4,Kc⟩:∃ W,bytesWorld w1 5 (Pk.iP mk)=W:=⟨_,rfl⟩
  rw [hcp,Kc] at hcv
  rw [hcp] at hge hgm
  rw [Kc] at hmb Jv hbw
  have hspot:0 < c1→∀ a,o1=some a→a.spot=none:=fun _ a ha=>by
   obtain ⟨g,hg,_⟩:=hsp a ha
   rw [hg]
  have Gz:=aA (Dn m mk o1 (some ⟨w1.heap.size,0,none⟩) c1 cp W4 hby HMK.out Jv hmb ⟨hc1,hc2⟩ ⟨hge,hgm⟩ hn1 hspot)
  have Ha:=aA (dY hb1 hbw)
  have Mq:=aA hcv
  have Uq:=aA Jv
  have qK:=aA hc1
  have WZ:=aA hn1
  clear ho ho' hbs hc2 hsp hcv hge hgm hbw hmb Jv hcp Kc hspot hc1 hn1 hb1 HO
  unfold GJ at Gz
  by_cases h:m.take mk.length=mk
  ·simp only [aT h] at Gz
   have TM:Hid (behind mk l=some (m.drop mk.length)):=aA (by unfold behind;rw [oO.out];dsimp only;rw [aT h])
   have hle:mk.length≤m.length:=by
    have:=congrArg List.length h
    rw [bZ] at this
    omega
   have hdl:(m.drop mk.length).length=m.length - mk.length:=by simp
   have hcut:Bs W4 (iK o1 c1 mk.length) (m.drop mk.length):=by
    have:=Uq.out.cut (h:=m.length) hle (aB _) qK.out
    rwa [bO (by rw [hdl];omega)] at this
   have Vq:=aA (fun (X:World) (hb:Below W4.heap.size W4 X)=>Pk.NH (iK o1 c1 mk.length) (c1 - mk.length) (m.drop mk.length) X (fun e=>by
    have : o1=none:=by
     unfold Pk.iK at e
     simpa using e
    have:=WZ.out this
    omega) (by rw [hdl];have:=BU.out;omega) (hcut.below hb))
   rw [hdl] at Vq
   clear h hle hdl hcut Uq qK WZ hby hml
   generalize iK o1 c1 mk.length=oc at Gz Vq
   generalize c1 - mk.length=cc at Gz Vq
   generalize m.length - mk.length=nn at Gz Vq
   have HMM:Hid (m.length=m.length):=aA rfl
   go_wp2_with (with_reducible refine eQ (some 21) rfl ?_;refine aA ?_;refine yL rfl (.tmp 20) 9 31 rfl (.string (Pk.iP mk)) (.slice (some ⟨w1.heap.size,0,none⟩) mk.length cp) W4 rfl Mq.out ?_)
   refine Gz.out.mono ?_
   rintro e w5 ⟨rfl,hb5⟩
   have CB:=aA (dY Ha.out hb5)
   have HN5:=aA (Vq.out w5 hb5)
   clear hb5 Gz Vq Mq
   go_wp2_with fail
   refine HN5.out.mono ?_
   rintro e w6 ⟨p,o2,c2,rfl,hpr,hp,ho2,hb6⟩
   have HE:Hid (EF mk l w (.returned (.tuple #[.pointer (some ⟨p,0,none⟩),.int .i64 0])) w6):=aA ⟨dY CB.out hb6,by
    rw [TM.out]
    exact ⟨p,o2,c2,rfl,hpr,bH CB.out.size hp,fun b off e=>bH CB.out.size (ho2 b off e)⟩⟩
   clear hpr hp ho2 hb6 HN5
   go_wp2_with fail
   go_ret2
   exact HE.out
  ·simp only [aX h] at Gz
   have HE:Hid (∀ w',Below w.heap.size w w'→EF mk l w (.returned (.tuple #[.pointer none,.int .i64 70])) w'):=aA (fun w' hb=>⟨hb,by
    have e:behind mk l=none:=by unfold behind;rw [oO.out];dsimp only;rw [aX h]
    have e2:jZ mk l=70:=by unfold jZ;rw [oO.out];dsimp only;rw [aX h]
    rw [e,e2]⟩)
   clear h Uq qK WZ hby hml
   go_wp2_with (with_reducible refine eQ (some 21) rfl ?_;refine aA ?_;refine yL rfl (.tmp 20) 9 31 rfl (.string (Pk.iP mk)) (.slice (some ⟨w1.heap.size,0,none⟩) mk.length cp) W4 rfl Mq.out ?_)
   refine Gz.out.mono ?_
   rintro e w5 ⟨rfl,hb5⟩
   have CB:=aA (dY Ha.out hb5)
   clear hb5 Gz Mq
   go_wp2_with fail
   go_ret2
   exact HE.out _ CB.out
end Fx
end Go.Proofs.YtbbhmhihpdmoiaaGreat
