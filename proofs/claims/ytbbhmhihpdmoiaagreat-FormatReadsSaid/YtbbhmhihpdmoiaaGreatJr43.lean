import Derived.Test.YtbbhmhihpdmoiaaGreatJr42
set_option linter.unusedVariables false
set_option linter.unusedSimpArgs false
set_option maxRecDepth 100000
set_option maxHeartbeats 32000000
namespace Go.Proofs.YtbbhmhihpdmoiaaGreat
namespace Fx
open Go Go.RowKit
open Pk (iA By Bs)
theorem KQ {mk l:List Nat} (nN:behind mk l=none):jZ mk l≠0:=by
 unfold behind at nN
 unfold jZ
 cases ho:Cx.opened l with
 | none=>simp
 | some m =>
  rw [ho] at nN
  dsimp only at nN ⊢
  split at nN
  ·cases nN
  ·rename_i hh
   rw [aX hh]
   decide
theorem IC (l:List Nat) (o:Option Addr) (c:Nat) (w:World) (hl:By l) (hlen:l.length≤900000) (hc:l.length≤c) (hc2:c≤9223372036854775807) (hb:Bs w o l) :
  Calls Tryz.prog 17 #[.slice o l.length c] w (BD l w):=by
 obtain ⟨V0,lI⟩:∃ V,w.alloc (.cells #[.int .i64 0,.int .i64 0,.int .i64 0,.int .i64 0,.int .i64 0,.int .i64 0,.int .i64 0,.int .i64 0,.int .i64 0,.int .i64 0,.int .i64 0,.int .i64 0,.int .i64 0,.int .i64 0,.int .i64 0,.int .i64 0,.int .i64 0,.int .i64 0,.slice none 0 0] 28)=V:=⟨_,rfl⟩
 have hb0:Below w.heap.size w V0:=by rw [←lI];exact (aI _ _).alloc (aB _) _
 have hr0:dR 28 w.heap.size #[.int .i64 0,.int .i64 0,.int .i64 0,.int .i64 0,.int .i64 0,.int .i64 0,.int .i64 0,.int .i64 0,.int .i64 0,.int .i64 0,.int .i64 0,.int .i64 0,.int .i64 0,.int .i64 0,.int .i64 0,.int .i64 0,.int .i64 0,.int .i64 0,.slice none 0 0] V0:=by rw [←lI];exact dR.new _ _ _
 have hz0:V0.heap.size=w.heap.size + 1:=by rw [←lI];simp
 have HO:=aA (yK gT uZ rfl l o c V0 hl hlen hc hc2 (hb.below hb0))
 rw [show Pk.iP gT=⟨#[109,117,108,49]⟩ from rfl] at HO
 have HB0:=aA hb0
 have oO:=aA hr0
 have HZ0:=aA hz0
 have qJ:=aA lI
 have hiz:=aA (show (Tryz.prog.info? 28).map (·.size)=some (fZ gJ).size by kernel_rfl)
 have hsz:=aA (show 19=(fZ gJ).size from rfl)
 have Bz:=aA (show (fZ gJ).all (·.oneCell')=true from pR gJ (.slice none 0 0) rfl)
 clear hb0 hr0 lI hl hlen hc hc2 hb hz0
 have OV:Hid (∀ (ec:Int) (X:World),wK l=(none,ec)→Below w.heap.size w X→BD l w (.returned (.tuple #[.agg (fZ gJ),.int .i64 ec])) X):=aA (fun ec X hd hb=>⟨⟨gJ,by rw [hd],wR _ _,by rw [hd];rfl⟩,hb⟩)
 replace HO:=aA (HO.out.mono fun e w' h=>vQ.use h)
 cases nN:behind gT l with
 | none =>
  have HD:Hid (wK l=(none,jZ gT l)):=aA (by unfold wK;rw [nN])
  have Fb:Hid (jZ gT l≠0):=aA (KQ nN)
  simp only [nN] at HO
  have hnz:=Fb.out
  generalize jZ gT l=ec at HO HD hnz
  clear nN Fb
  go_enter Tryz.func17,Tryz.ntmps17
  go_wp2_with (rw [qJ.out])
  refine HO.out.mono ?_
  rintro e w1 ⟨hb1,rfl⟩
  have HR1:=aA (oO.out.below hb1)
  have HB1:=aA (dY HB0.out hb1)
  clear hb1 HO qJ oO
  go_wp2_with (first | (with_reducible refine eQ (some 18) rfl ?_;refine aA ?_;refine fP rfl (.agg (fZ gJ)) w1 (by kernel_rfl) ?_) | (refine dQ rfl 28 (.tmp 2) (.tmp 18) rfl w.heap.size _ _ (fZ gJ) rfl rfl HR1.out hiz.out hsz.out Bz.out ?_))
  refine aO (v:=.tuple #[.agg (fZ gJ),.int .i64 ec]) (iE rfl _ _ w.heap.size rfl (.int .i64 ec) rfl 28 (fZ gJ) _ (setRow_heap _ _ _ _ _ _ HR1.out) bA rfl hiz.out) rfl ?_
  exact OV.out ec _ HD.out (Below.row HB1.out (aB _) _)
 | some r =>
  simp only [nN] at HO
  have TM:=aA nN
  clear nN
  go_enter Tryz.func17,Tryz.ntmps17
  go_wp2_with (rw [qJ.out])
  refine HO.out.mono ?_
  rintro e w1 ⟨hb1,m,p,o1,c1,hmr,hml,rfl,hpr,hk,hp,iQ⟩
  rw [HZ0.out] at hp
  have hpl:w.heap.size < p∧p < w1.heap.size:=⟨by omega,hpr.lt⟩
  obtain ⟨V1,hV1⟩:∃ V,w1.alloc (.cells #[.int .i64 0,.int .i64 0,.int .i64 0,.int .i64 0,.int .i64 0,.int .i64 0,.int .i64 0,.int .i64 0,.int .i64 0,.int .i64 0,.int .i64 0,.int .i64 0,.int .i64 0,.int .i64 0,.int .i64 0,.int .i64 0,.int .i64 0,.int .i64 0,.slice none 0 0] 28)=V:=⟨_,rfl⟩
  obtain ⟨V2,hV2⟩:∃ V,V1.setRow w1.heap.size (fZ gJ)=V:=⟨_,rfl⟩
  have hx1:dR 28 w1.heap.size #[.int .i64 0,.int .i64 0,.int .i64 0,.int .i64 0,.int .i64 0,.int .i64 0,.int .i64 0,.int .i64 0,.int .i64 0,.int .i64 0,.int .i64 0,.int .i64 0,.int .i64 0,.int .i64 0,.int .i64 0,.int .i64 0,.int .i64 0,.int .i64 0,.slice none 0 0] V1:=by rw [←hV1];exact dR.new _ _ _
  have hlow:Below w1.heap.size w1 V2:=by rw [←hV2,←hV1];exact Below.row ((aI _ _).alloc (aB _) _) (aB _) _
  have Ym:∀ b off,o1=some ⟨b,off,none⟩→0 < m.length→b < w1.heap.size:=fun b off e h=>Nat.lt_trans (iQ b off e h) hpl.2
  have h0:GV o1 c1 m p w1.heap.size 4 false (0,0,eX) (.slice none 0 0) w V2 :=
   ⟨dV hlow (oO.out.below hb1),by rw [←hV2];exact hx1.row _,hpr.below hlow,hk.at',dY (dY HB0.out hb1) hlow⟩
  have H0:=aA h0
  have qV:=aA hpl
  have jJ:=aA Ym
  have HK:=aA hk
  have LQ:=aA hmr
  have XA:=aA hml
  have Oy:=aA hx1
  have Oz:=aA hV1
  have uJ:=aA hV2
  have CU:=aA (kE 64 (by omega) o1 c1 m p 4 false V2 hk h0.rd)
  clear hb1 hmr hml hpr hk hp iQ hpl hV1 hV2 hx1 hlow Ym h0 HO qJ oO HB0 HZ0
  go_wp2_with (first | (rw [Oz.out]) | (rw [uJ.out]) | (with_reducible refine eQ (some 20) rfl ?_;refine aA ?_;refine fP rfl (.agg (fZ gJ)) w1 (by kernel_rfl) ?_) | (refine dQ rfl 28 (.tmp 6) (.tmp 20) rfl w1.heap.size _ _ (fZ gJ) rfl rfl Oy.out hiz.out hsz.out Bz.out ?_))
  clear Oz uJ Oy
  generalize w1.heap.size=g at *
  refine CU.out.mono ?_
  rintro e w2 h2
  obtain ⟨hg2,x1,a1,lo1,rfl,hn1,hp1,hl1,hr1⟩:=kU.use h2
  have ht1:=H0.out.step qV.out.1 qV.out.2 hg2 hp1 hl1
  obtain ⟨q0,f0⟩:=ht1.cell (j:=0) rfl
  have ht2:=ht1.set (j:=0) (u:=.int .i64 x1) (f2:=(x1,0,eX)) (v2:=.slice none 0 0) qV.out.1 qV.out.2 jJ.out rfl
  obtain ⟨Y1,wZ⟩:∃ V,w2.setCell ⟨g,0,none⟩ (.int .i64 x1)=V:=⟨_,rfl⟩
  rw [wZ] at ht2
  have H2:=aA ht2
  have WZ:=aA hn1
  have HR1:=aA hr1
  have Ev:=aA wZ
  have HS2:=aA (kE 64 (by omega) o1 c1 m p a1 lo1 Y1 (iO HK.out hl1) ht2.rd)
  clear h2 hg2 hn1 hp1 hl1 hr1 ht1 ht2 wZ CU H0
  go_wp2_with (rw [Ev.out])
  clear Ev q0 f0
  refine HS2.out.mono ?_
  rintro e w3 h2
  obtain ⟨hg2,x2,a2,lo2,rfl,hn1,hp1,hl1,hr1⟩:=kU.use h2
  have ht1:=H2.out.step qV.out.1 qV.out.2 hg2 hp1 hl1
  obtain ⟨q0,f0⟩:=ht1.cell (j:=1) rfl
  have ht2:=ht1.set (j:=1) (u:=.int .i64 x2) (f2:=(x1,x2,eX)) (v2:=.slice none 0 0) qV.out.1 qV.out.2 jJ.out rfl
  obtain ⟨Y2,hY2⟩:∃ V,w3.setCell ⟨g,1,none⟩ (.int .i64 x2)=V:=⟨_,rfl⟩
  rw [hY2] at ht2
  have H3:=aA ht2
  have BK:=aA hn1
  have HR2:=aA hr1
  have BG:=aA hY2
  have mP:∀ b off,o1=some ⟨b,off,none⟩→0 < m.length→b < Y2.heap.size:=fun b off e hm=>Nat.lt_trans (jJ.out b off e hm) (aC.1 ht2.box).1
  have HM:=aA (vT o1 c1 m p a2 lo2 Y2 (iO HK.out hl1) ht2.rd mP)
  clear h2 hg2 hn1 hp1 hl1 hr1 ht1 ht2 hY2 mP HS2 H2
  go_wp2_with (rw [BG.out])
  clear BG q0 f0
  refine HM.out.mono ?_
  rintro e w4 h2
  obtain ⟨hg2,cs,a3,lo3,rfl,hn2,hp2,hl2,hr2⟩:=kU.use h2
  have ht3:=H3.out.step qV.out.1 qV.out.2 hg2 hp2 hl2
  have nL:w4.there g 2 (mC cs).size:=fun j hj=>by
   rw [fT,hn2.1] at hj
   refine ⟨?_,dU ht3.box⟩
   rw [aF _ _ _ _ _ _ ht3.box]
   simp [mV,eX]
   omega
  obtain ⟨Y3,FT⟩:∃ V,w4.setCells g 2 (mC cs).toList=V:=⟨_,rfl⟩
  have FN:GV o1 c1 m p g a3 lo3 (x1,x2,cs) (.slice none 0 0) w Y3:=by
   have zO:Below g w4 Y3:=by rw [←FT];exact mJ (aB _) _ _ ⟨rfl,rfl,rfl,aB _,fun _ _=>rfl⟩
   refine ht3.put qV.out.1 qV.out.2 jJ.out zO ?_
   have:=kX (mC cs).toList [.int .i64 x1,.int .i64 x2] (eX.map encI) [.slice none 0 0] w4 (by simp [mC,eX,hn2.1]) (by exact ht3.box)
   rw [←FT]
   rw [show ([Value.int .i64 x1,Value.int .i64 x2]:List Value).length=2 from rfl] at this
   rw [this]
   simp [mV,mC]
  have hi2:=aA (show (Tryz.prog.info? 25).map (·.size)=some (mC cs).size by rw [fT,hn2.1];kernel_rfl)
  have Gs:=aA nL
  have H4:=aA FN
  have Vr:=aA hn2
  have HR3:=aA hr2
  have Lx:=aA FT
  have Pb:=aA (kE 16 (by omega) o1 c1 m p a3 lo3 Y3 (iO HK.out hl2) FN.rd)
  clear h2 hg2 hn2 hp2 hl2 hr2 ht3 FN nL FT HM H3
  go_wp2_with (first | (rw [Lx.out]) | (refine wpList_store_mid rfl 25 (.tmp 29) (.tmp 28) rfl g 2 (mC cs) rfl rfl Gs.out hi2.out (iY _) ?_))
  clear Lx Gs
  refine Pb.out.mono ?_
  rintro e w5 h3
  obtain ⟨hg3,nz,a4,CK,rfl,hnz,hp3,hl3,hr3⟩:=kU.use h3
  obtain ⟨nv,rfl⟩:=Int.eq_ofNat_of_zero_le hnz.1
  have v16:(nv:Int)≤16:=hnz.2
  have v0:(0:Int)≤(nv:Int):=by omega
  have Fs:Hid (WN o1 c1 m p g a4 CK (x1,x2,cs) (.slice none ([]:List fE).length 0) [] w w5):=aA ⟨H4.out.step qV.out.1 qV.out.2 hg3 hp3 hl3,iD.nil _ _ _ _ _,fun z hz=>by simp at hz⟩
  have HR4:=aA hr3
  clear h3 hg3 hp3 hl3 hr3 hnz Pb H4
  go_wp2_with fail
  go_loopg [8] nv (fun t s8 wx=>∃ (zs:List fE) (ov:Option Addr) (cv b:Nat) (lo:Bool),t=nv - zs.length∧s8=.int .i64 (zs.length:Int)∧zs.length≤nv∧WN o1 c1 m p g b lo (x1,x2,cs) (.slice ov zs.length cv) zs w wx∧fQ CK (gK nJ zs.length) m a4=opt lo (zs.map jC,b))
  case atStart=>exact ⟨[],none,0,a4,CK,rfl,rfl,by simp,Fs.out,nG _ _ _ _⟩
  case round =>
   obtain ⟨zs,ov,cv,b,lo,rfl,rfl,hk,hj,hrun⟩:=hrel
   obtain ⟨w6,kP⟩:∃ X,X=wr:=⟨_,rfl⟩
   subst kP
   have HJ:=aA hj
   have Uc:=aA hrun
   clear hj hrun Fs
   obtain ⟨nvs,Ca⟩:∃ n,zs.length=n:=⟨_,rfl⟩
   have HNV:=aA Ca
   have k0:(0:Int)≤(zs.length:Int):=by omega
   clear Ca
   by_cases hkn:zs.length < nv
   ·have t2:(zs.length:Int) < (nv:Int):=by omega
    have HVL:=aA (show zs.length≤1000 by omega)
    have HOC:=aA (XV w.heap.size o1 c1 m p b lo w6 (by have:=HJ.out.lt;have:=qV.out;omega) (iO HK.out HJ.out.base.le) HJ.out.base.rd (fun bb off e hm=>Nat.lt_trans (jJ.out bb off e hm) HJ.out.lt))
    go_wp2_with fail
    refine HOC.out.mono ?_
    rintro e x7 h3
    obtain ⟨hg,x,b7,lo7,rfl,hfx,hp,hl,hr⟩:=kU.use h3
    have jx:=HJ.out.step qV.out.1 qV.out.2 hg hp hl
    obtain ⟨V3,sS⟩:∃ V,x7.alloc (.cells #[.int .i64 0,.int .i64 0,.int .i64 0,.int .i64 0,.int .i64 0,.int .i64 0,.int .i64 0,.int .i64 0,.int .i64 0,.int .i64 0,.int .i64 0,.int .i64 0,.int .i64 0,.int .i64 0,.int .i64 0,.int .i64 0,.int .i64 0,.slice none 0 0,.slice none 0 0] 73)=V:=⟨_,rfl⟩
    obtain ⟨V4,hV4⟩:∃ V,V3.setRow x7.heap.size (eF x).toArray=V:=⟨_,rfl⟩
    obtain ⟨V5,FU⟩:∃ V,V4.alloc (.cells (eF x).toArray 73)=V:=⟨_,rfl⟩
    have r1:dR 73 x7.heap.size #[.int .i64 0,.int .i64 0,.int .i64 0,.int .i64 0,.int .i64 0,.int .i64 0,.int .i64 0,.int .i64 0,.int .i64 0,.int .i64 0,.int .i64 0,.int .i64 0,.int .i64 0,.int .i64 0,.int .i64 0,.int .i64 0,.int .i64 0,.slice none 0 0,.slice none 0 0] V3:=by rw [←sS];exact dR.new _ _ _
    have r2:dR 73 x7.heap.size (eF x).toArray V4:=by rw [←hV4];exact r1.row _
    have b4:Below x7.heap.size x7 V4:=by rw [←hV4,←sS];exact Below.row ((aI _ _).alloc (aB _) _) (aB _) _
    have b5:Below V4.heap.size V4 V5:=by rw [←FU];exact (aI _ _).alloc (aB _) _
    have XO:=aA (jx.up b4)
    have yG:=aA ((jx.up b4).up b5)
    have qC:=aA (show V4.rangeAt x7.heap.size 0 (eF x) from fun j u hj=>by rw [bB,aF _ _ _ _ _ _ r2];simpa using hj)
    have qD:=aA (show V5.heap[V4.heap.size]?=some (.cells (eF x).toArray 73 (0,0)) by rw [←FU];exact aG _ _)
    have HF5:=aA (show iM w.heap.size x V5 from (hfx.rows (Rows.of_below b4) (Rows.of_below b4)).rows (Rows.of_below b5) (Rows.of_below b5))
    have hw2:=hfx.wf
    have hio:=aA (show (Tryz.prog.info? 73).map (·.size)=some (eF x).length by rw [eZ hw2];kernel_rfl)
    have Jt:=aA (show (Tryz.prog.info? 73).map (·.size)=some (eF x).toArray.size by rw [aL,eZ hw2];kernel_rfl)
    have Rm:=aA (show 19=(eF x).toArray.size by rw [aL,eZ hw2])
    have HL19:Hid ((eF x).toArray.size=19):=aA (by rw [aL,eZ hw2])
    have Rl:Hid ((eF x).toArray.all (·.oneCell')=true):=aA (by rw [List.all_toArray,bL];exact fun u hu=>oQ x u hu)
    have Im:V4.cell? ⟨g,18,none⟩=some (.slice ov zs.length cv):=(XO.out.base.cell (j:=18) (by simp [mV,Vr.out.1])).1
    have OT:Hid (g + 1≤V5.heap.size):=aA (by have:=yG.out.lt;omega)
    have HRX0:=aA r1
    have HOR:=aA hr
    have LP:=aA sS
    have HV4:=aA hV4
    have HV5:=aA FU
    clear h3 hg hfx hp hl hr jx r1 r2 b4 b5 hw2 sS hV4 FU HJ HOC
    go_wp2_with (first | (rw [LP.out]) | (rw [HV4.out]) | (rw [HV5.out]) | (refine dQ rfl 73 (.tmp 9) (.tmp 38) rfl x7.heap.size _ _ (eF x).toArray rfl rfl HRX0.out Jt.out Rm.out Rl.out ?_) | (with_reducible refine eQ (some 41) rfl ?_;refine aA ?_;refine wpList_load_mid rfl 73 (.tmp 9) rfl x7.heap.size 0 rfl (eF x) _ qC.out bV rfl hio.out ?_) | (with_reducible refine eQ (some 42) rfl ?_;refine aA ?_;refine lU FM (by omega) rfl (.tmp 41) 26 rfl Tryz.underlying26 (eF x).toArray rfl HL19.out ?_) | (at_builtin;refine AV FM rfl (.tmp 40) (.tmp 42) 26 rfl Tryz.underlying26 (g + 1) (.slice ov zs.length cv) zs [x] rfl OT.out yG.out.own (some ⟨V4.heap.size,0,none⟩) 1 rfl (fun h=>by cases h) (pW qD.out) (fun z hz=>by simp at hz;subst hz;have:=HL19.out;rwa [aL] at this) (fun z _=>oQ z) (by have:=HVL.out;simp;omega) ?_))
    clear Im
    intro v4 X5 NR hg5
    refine aA ?_
    obtain ⟨ow,cw,hvw,_,_⟩:=NR.form (fun z hz=>by
     rcases bU.1 hz with hz | hz
     ·exact eZ (yG.out.each z hz).wf
     ·simp at hz;subst hz;exact eZ HF5.out.wf)
    subst hvw
    have FO:=yG.out.app qV.out.1 qV.out.2 jJ.out Vr.out.1 NR hg5 HF5.out
    have f18:X5.cell? ⟨g,18,none⟩=some (.slice ov zs.length cv):=FO.1
    have f19:X5.frozen? ⟨g,18,none⟩=false:=FO.2.1
    have Fq:=aA FO.2.2
    have XN:=aA (iV Uc.out HOR.out)
    obtain ⟨ml,hml⟩:∃ ml,(zs ++ [x]).length=ml:=⟨_,rfl⟩
    have HML2:=aA hml
    rw [hml] at Fq ⊢
    clear NR hg5 FO hml yG qD qC HV5 HV4 LP XO HRX0
    go_wp2_with fail
    go_roundg (nv - (zs.length + 1))
    case measure=>omega
    case rel=>exact ⟨zs ++ [x],ow,cw,_,_,by simp,by rw [aY];go_num,by simp;omega,by rw [HML2.out];exact Fq.out,by rw [aY,List.map_append];exact XN.out⟩
   ·have t2:¬ (zs.length:Int) < (nv:Int):=by omega
    have hrm:=vZ HR4.out (by rw [show ((nv:Int)).toNat=zs.length by omega];exact Uc.out)
    have hend:=Cz (f:=(x1,x2,cs)) LQ.out XA.out HR1.out HR2.out HR3.out hrm HJ.out.base.le
    obtain ⟨oo,oc,e1,hcap,hlies⟩:=HJ.out.own.form (fun z hz=>eZ (HJ.out.each z hz).wf)
    cases e1
    obtain ⟨s,hs⟩:∃ s:fH,(⟨x1,x2,cs,ov,zs,cv⟩:fH)=s:=⟨_,rfl⟩
    have hwf:jE s:=by rw [←hs];exact ⟨kJ (by omega) WZ.out,kJ (by omega) BK.out,Vr.out.1,fun j=>by
     show Num (cs.getD j 0)
     rw [aS]
     cases hz:cs[j]? with
     | none=>exact ⟨by simp,by simp⟩
     | some z=>exact Vr.out.2 z (bJ hz),hcap⟩
    have hfs:iC w.heap.size s w6:=by
     rw [←hs] at hwf ⊢
     exact ⟨hwf,hlies.base (by have:=qV.out;omega),HJ.out.each⟩
    have HX5:=aA (show w6.heap[g]?=some (.cells (jF s).toArray 28 (0,0)) by rw [←hs];exact HJ.out.base.box)
    have GQ:=aA (show dR 28 w.heap.size #[.int .i64 0,.int .i64 0,.int .i64 0,.int .i64 0,.int .i64 0,.int .i64 0,.int .i64 0,.int .i64 0,.int .i64 0,.int .i64 0,.int .i64 0,.int .i64 0,.int .i64 0,.int .i64 0,.int .i64 0,.int .i64 0,.int .i64 0,.int .i64 0,.slice none 0 0] w6 from HJ.out.base.res)
    have CB:=aA HJ.out.base.below
    have HFS:=aA hfs
    have HKEY:=aA (show wE s=(x1,x2,cs,zs.map jC) by rw [←hs];rfl)
    have BN:=aA hend
    have Fy:=aA (Pk.XY o1 c1 m p b lo w6 (iO HK.out HJ.out.base.le) HJ.out.base.rd)
    clear hrm hend hcap hlies hs hwf hfs HJ Uc
    generalize hec:Pk.pY lo m.length b=ec at Fy BN
    clear hec
    by_cases hz:ec=0
    ·subst hz
     obtain ⟨_,hps⟩:=BN.out.1 rfl
     rw [←HKEY.out] at hps
     have HDK:=aA (RY TM.out hps)
     clear hps BN TM
     go_wp2_with fail
     refine Fy.out.mono ?_
     rintro e w7 ⟨rfl,hb⟩
     have hx6:=dV hb HX5.out
     have wH:iC w.heap.size s w7:=HFS.out.rows (Rows.of_below hb) (Rows.of_below hb) (Rows.of_below hb)
     have Ma:=aA (show w7.rangeAt g 0 (jF s) from fun j u hj=>by rw [aF _ _ _ _ _ _ hx6,bB];simpa using hj)
     have GX:=aA (show dR 28 w.heap.size #[.int .i64 0,.int .i64 0,.int .i64 0,.int .i64 0,.int .i64 0,.int .i64 0,.int .i64 0,.int .i64 0,.int .i64 0,.int .i64 0,.int .i64 0,.int .i64 0,.int .i64 0,.int .i64 0,.int .i64 0,.int .i64 0,.int .i64 0,.int .i64 0,.slice none 0 0] w7 from dV hb GQ.out)
     have XD:=aA (dY CB.out hb)
     have HC:=aA (show Calls Tryz.prog 34 #[.agg (jF s).toArray] w7 (wP (JN s) w7) from LY s w7 wH.wf wH.at)
     have HF6:=aA wH
     have Ju:=aA (show (Tryz.prog.info? 28).map (·.size)=some (jF s).length by simp only [jF,bK,aY,bI,wH.wf.len,List.length_nil];kernel_rfl)
     have XB:=aA (show (Tryz.prog.info? 28).map (·.size)=some (jF s).toArray.size by rw [aL];exact Ju.out)
     have TH:=aA (show 19=(jF s).toArray.size by simp [jF,wH.wf.len])
     have HO6:=aA (show (jF s).toArray.all (·.oneCell')=true from pR s (.slice s.oo s.os.length s.oc) rfl)
     clear hx6 wH hb Fy HX5 GQ CB HFS HKEY
     rw [←Ao] at HDK
     unfold wP at HC
     cases hk2:JN s
     ·rw [hk2] at HC HDK
      simp only [bE,if_false] at HC HDK
      go_wp2_with (with_reducible refine eQ (some 50) rfl ?_;refine aA ?_;refine wpList_load_mid rfl 28 (.tmp 6) rfl g 0 rfl (jF s) _ Ma.out bA rfl Ju.out ?_)
      refine HC.out.mono ?_
      rintro e w8 ⟨rfl,hb⟩
      have WY:=aA (show dR 28 w.heap.size #[.int .i64 0,.int .i64 0,.int .i64 0,.int .i64 0,.int .i64 0,.int .i64 0,.int .i64 0,.int .i64 0,.int .i64 0,.int .i64 0,.int .i64 0,.int .i64 0,.int .i64 0,.int .i64 0,.int .i64 0,.int .i64 0,.int .i64 0,.int .i64 0,.slice none 0 0] w8 from dV hb GX.out)
      have Us:=aA (dY XD.out hb)
      clear hb HC GX XD
      go_wp2_with (first | (with_reducible refine eQ (some 54) rfl ?_;refine aA ?_;refine fP rfl (.agg (fZ gJ)) w8 (by kernel_rfl) ?_) | (refine dQ rfl 28 (.tmp 2) (.tmp 54) rfl w.heap.size _ _ (fZ gJ) rfl rfl WY.out hiz.out hsz.out Bz.out ?_))
      refine aO (v:=.tuple #[.agg (fZ gJ),.int .i64 60]) (iE rfl _ _ w.heap.size rfl (.int .i64 60) rfl 28 (fZ gJ) _ (setRow_heap _ _ _ _ _ _ WY.out) bA rfl hiz.out) rfl ?_
      exact OV.out 60 _ HDK.out (Below.row Us.out (aB _) _)
     ·rw [hk2] at HC HDK
      simp only [if_true] at HC HDK
      go_wp2_with (with_reducible refine eQ (some 50) rfl ?_;refine aA ?_;refine wpList_load_mid rfl 28 (.tmp 6) rfl g 0 rfl (jF s) _ Ma.out bA rfl Ju.out ?_)
      refine HC.out.mono ?_
      rintro e w8 ⟨rfl,hb⟩
      have HX7:=aA (show w8.rangeAt g 0 (jF s) from kN hb Ma.out)
      have WY:=aA (show dR 28 w.heap.size #[.int .i64 0,.int .i64 0,.int .i64 0,.int .i64 0,.int .i64 0,.int .i64 0,.int .i64 0,.int .i64 0,.int .i64 0,.int .i64 0,.int .i64 0,.int .i64 0,.int .i64 0,.int .i64 0,.int .i64 0,.int .i64 0,.int .i64 0,.int .i64 0,.slice none 0 0] w8 from dV hb GX.out)
      have Us:=aA (dY XD.out hb)
      have HF7:=aA (show iC w.heap.size s w8 from HF6.out.rows (Rows.of_below hb) (Rows.of_below hb) (Rows.of_below hb))
      clear hb HC GX XD Ma HF6
      go_wp2_with (first | (with_reducible refine eQ (some 55) rfl ?_;refine aA ?_;refine wpList_load_mid rfl 28 (.tmp 6) rfl g 0 rfl (jF s) _ HX7.out bA rfl Ju.out ?_) | (refine dQ rfl 28 (.tmp 2) (.tmp 55) rfl w.heap.size _ _ (jF s).toArray rfl rfl WY.out XB.out TH.out HO6.out ?_))
      refine aO (v:=.tuple #[.agg (jF s).toArray,.int .i64 0]) (iE rfl _ _ w.heap.size rfl (.int .i64 0) rfl 28 (jF s).toArray _ (setRow_heap _ _ _ _ _ _ WY.out) bA rfl XB.out) rfl ?_
      refine ⟨⟨s,by rw [HDK.out];rfl,?_,by rw [HDK.out];rfl⟩,Below.row Us.out (aB _) _⟩
      have hrw:∀ {t:TypeId},t≠28→Rows t w8 (w8.setRow w.heap.size (jF s).toArray):=fun hne q cur hq=>by
       rw [setRow_other _ _ _ _ (fun e=>by
        subst e
        have:=WY.out
        unfold dR at this
        rw [this] at hq
        cases hq
        exact hne rfl)]
       exact hq
      exact HF7.out.rows (hrw (by decide)) (hrw (by decide)) (hrw (by decide))
    ·have HDK:=aA (Dk TM.out (BN.out.2 hz))
     clear BN TM
     go_wp2_with fail
     refine Fy.out.mono ?_
     rintro e w7 ⟨rfl,hb⟩
     have GX:=aA (show dR 28 w.heap.size #[.int .i64 0,.int .i64 0,.int .i64 0,.int .i64 0,.int .i64 0,.int .i64 0,.int .i64 0,.int .i64 0,.int .i64 0,.int .i64 0,.int .i64 0,.int .i64 0,.int .i64 0,.int .i64 0,.int .i64 0,.int .i64 0,.int .i64 0,.int .i64 0,.slice none 0 0] w7 from dV hb GQ.out)
     have XD:=aA (dY CB.out hb)
     clear hb Fy GQ CB
     go_wp2_with (first | (with_reducible refine eQ (some 49) rfl ?_;refine aA ?_;refine fP rfl (.agg (fZ gJ)) w7 (by kernel_rfl) ?_) | (refine dQ rfl 28 (.tmp 2) (.tmp 49) rfl w.heap.size _ _ (fZ gJ) rfl rfl GX.out hiz.out hsz.out Bz.out ?_))
     refine aO (v:=.tuple #[.agg (fZ gJ),.int .i64 70]) (iE rfl _ _ w.heap.size rfl (.int .i64 70) rfl 28 (fZ gJ) _ (setRow_heap _ _ _ _ _ _ GX.out) bA rfl hiz.out) rfl ?_
     exact OV.out 70 _ HDK.out (Below.row XD.out (aB _) _)
def En (l:List Nat) (w:World) (e:Ending) (w':World):Prop:=e=.returned (.tuple #[.agg #[.int .i64 (lC l).1,.int .i64 (lC l).2.1,.int .i64 (lC l).2.2.1],.int .i64 (lC l).2.2.2])∧Below w.heap.size w w'
theorem Ci {m r:List Nat} (h:m.drop 4=r):lJ jV (pU 16) m 4=(lJ jV (pU 16) r 0).map fun q=>(q.1,4 + q.2):=by
 have:=(IQ.seq (Shift.u 16)) m 4 0
 rwa [h] at this
theorem VI {l m r:List Nat} (hb:behind gT l=some r) (hr:m.drop 4=r) {f:Int×Int×List Int} {n:Int} {a1 a2 a3 a4:Nat} {lo1 lo2 lo3 CK:Bool} (h1:fQ false (pU 64) m 4=opt lo1 (f.1,a1)) (h2:fQ lo1 (pU 64) m a1=opt lo2 (f.2.1,a2)) (h3:fQ lo2 EX m a2=opt lo3 (f.2.2,a3)) (h4:fQ lo3 (pU 16) m a3=opt CK (n,a4)) :
  lC l=if CK=true then (0,0,0,70) else (f.1,f.2.1,n,0):=by
 have h5:fQ false (lJ jV (pU 16)) m 4=opt CK ((f,n),a4):=gG (gG h1 (gG h2 h3)) h4
 have e1:fQ false (lJ jV (pU 16)) m 4=lJ jV (pU 16) m 4:=rfl
 rw [e1,Ci hr] at h5
 unfold lC
 rw [hb]
 dsimp only
 cases CK
 ·simp only [opt,bE,if_false] at h5 ⊢
  rw [Option.map_eq_some_iff] at h5
  obtain ⟨⟨k,b⟩,hs,e⟩:=h5
  simp only [Prod.mk.injEq] at e
  obtain ⟨rfl,rfl⟩:=e
  rw [hs]
 ·simp only [opt,if_true] at h5 ⊢
  rw [Option.map_eq_none_iff] at h5
  rw [h5]
theorem TV (l:List Nat) (o:Option Addr) (c:Nat) (w:World) (hl:By l) (hlen:l.length≤900000) (hc:l.length≤c) (hc2:c≤9223372036854775807) (hb:Bs w o l) :
  Calls Tryz.prog 19 #[.slice o l.length c] w (En l w):=by
 obtain ⟨V0,lI⟩:∃ V,w.alloc (.cells #[.int .i64 0,.int .i64 0,.int .i64 0] 47)=V:=⟨_,rfl⟩
 have hb0:Below w.heap.size w V0:=by rw [←lI];exact (aI _ _).alloc (aB _) _
 have hr0:dR 47 w.heap.size #[.int .i64 0,.int .i64 0,.int .i64 0] V0:=by rw [←lI];exact dR.new _ _ _
 have hz0:V0.heap.size=w.heap.size + 1:=by rw [←lI];simp
 have HO:=aA (yK gT uZ rfl l o c V0 hl hlen hc hc2 (hb.below hb0))
 rw [show Pk.iP gT=⟨#[109,117,108,49]⟩ from rfl] at HO
 have HB0:=aA hb0
 have oO:=aA hr0
 have HZ0:=aA hz0
 have qJ:=aA lI
 have hiz:=aA (show (Tryz.prog.info? 47).map (·.size)=some (#[.int .i64 0,.int .i64 0,.int .i64 0]:Array Value).size by kernel_rfl)
 have hsz:=aA (show 3=(#[.int .i64 0,.int .i64 0,.int .i64 0]:Array Value).size from rfl)
 have Bz:=aA (show (#[.int .i64 0,.int .i64 0,.int .i64 0]:Array Value).all (·.oneCell')=true by kernel_rfl)
 clear hb0 hr0 lI hl hlen hc hc2 hb hz0
 have OV:Hid (∀ (k:Int×Int×Int×Int) (X:World),lC l=k→Below w.heap.size w X→En l w (.returned (.tuple #[.agg #[.int .i64 k.1,.int .i64 k.2.1,.int .i64 k.2.2.1],.int .i64 k.2.2.2])) X):=aA (fun k X hd hb=>by subst hd;exact ⟨rfl,hb⟩)
 replace HO:=aA (HO.out.mono fun e w' h=>vQ.use h)
 cases nN:behind gT l with
 | none =>
  have HD:Hid (lC l=(0,0,0,jZ gT l)):=aA (by unfold lC;rw [nN])
  have Fb:Hid (jZ gT l≠0):=aA (KQ nN)
  simp only [nN] at HO
  have hnz:=Fb.out
  generalize jZ gT l=ec at HO HD hnz
  clear nN Fb
  go_enter Tryz.func19,Tryz.ntmps19
  go_wp2_with (rw [qJ.out])
  refine HO.out.mono ?_
  rintro e w1 ⟨hb1,rfl⟩
  have HR1:=aA (oO.out.below hb1)
  have HB1:=aA (dY HB0.out hb1)
  clear hb1 HO qJ oO
  go_wp2_with (first | (with_reducible refine eQ (some 16) rfl ?_;refine aA ?_;refine fP rfl (.agg #[.int .i64 0,.int .i64 0,.int .i64 0]) w1 (by kernel_rfl) ?_) | (refine dQ rfl 47 (.tmp 2) (.tmp 16) rfl w.heap.size _ _ #[.int .i64 0,.int .i64 0,.int .i64 0] rfl rfl HR1.out hiz.out hsz.out Bz.out ?_))
  refine aO (v:=.tuple #[.agg #[.int .i64 0,.int .i64 0,.int .i64 0],.int .i64 ec]) (iE rfl _ _ w.heap.size rfl (.int .i64 ec) rfl 47 #[.int .i64 0,.int .i64 0,.int .i64 0] _ (setRow_heap _ _ _ _ _ _ HR1.out) Tryz.underlying47 rfl hiz.out) rfl ?_
  exact OV.out (0,0,0,ec) _ HD.out (Below.row HB1.out (aB _) _)
 | some r =>
  simp only [nN] at HO
  have TM:=aA nN
  clear nN
  go_enter Tryz.func19,Tryz.ntmps19
  go_wp2_with (rw [qJ.out])
  refine HO.out.mono ?_
  rintro e w1 ⟨hb1,m,p,o1,c1,hmr,hml,rfl,hpr,hk,hp,iQ⟩
  rw [HZ0.out] at hp
  have HR1:=aA (oO.out.below hb1)
  have HB1:=aA (dY HB0.out hb1)
  have qV:=aA (show w.heap.size < p by omega)
  have jJ:=aA iQ
  have HK:=aA hk
  have LQ:=aA hmr
  have CU:=aA (kE 64 (by omega) o1 c1 m p 4 false w1 hk hpr)
  clear hb1 hmr hml hpr hk hp iQ HO qJ oO HB0 HZ0
  go_wp2_with fail
  refine CU.out.mono ?_
  rintro e w2 h2
  obtain ⟨hg2,x1,a1,lo1,rfl,hn1,hp1,hl1,hr1⟩:=kU.use h2
  have HR2:=aA (show dR 47 w.heap.size #[.int .i64 0,.int .i64 0,.int .i64 0] w2 from fI HR1.out hg2 (by have:=qV.out;omega))
  have HB2:=aA (gW (aB _) HB1.out hg2 (fun k e=>by cases e;have:=qV.out;omega))
  have HU1:=aA hr1
  have HS2:=aA (kE 64 (by omega) o1 c1 m p a1 lo1 w2 (iO HK.out hl1) hp1)
  clear h2 hg2 hn1 hp1 hl1 hr1 CU HR1 HB1
  go_wp2_with fail
  refine HS2.out.mono ?_
  rintro e w3 h2
  obtain ⟨hg2,x2,a2,lo2,rfl,hn1,hp1,hl1,hr1⟩:=kU.use h2
  have HR3:=aA (show dR 47 w.heap.size #[.int .i64 0,.int .i64 0,.int .i64 0] w3 from fI HR2.out hg2 (by have:=qV.out;omega))
  have HB3:=aA (gW (aB _) HB2.out hg2 (fun k e=>by cases e;have:=qV.out;omega))
  have HU2:=aA hr1
  have HM:=aA (vT o1 c1 m p a2 lo2 w3 (iO HK.out hl1) hp1 (fun b off e hm=>Nat.lt_trans (jJ.out b off e hm) hp1.lt))
  clear h2 hg2 hn1 hp1 hl1 hr1 HS2 HR2 HB2
  go_wp2_with fail
  refine HM.out.mono ?_
  rintro e w4 h2
  obtain ⟨hg2,cs,a3,lo3,rfl,hn1,hp1,hl1,hr1⟩:=kU.use h2
  have HR4:=aA (show dR 47 w.heap.size #[.int .i64 0,.int .i64 0,.int .i64 0] w4 from fI HR3.out hg2 (by have:=qV.out;omega))
  have Ha:=aA (gW (aB _) HB3.out hg2 (fun k e=>by cases e;have:=qV.out;omega))
  have HU3:=aA hr1
  have Pb:=aA (kE 16 (by omega) o1 c1 m p a3 lo3 w4 (iO HK.out hl1) hp1)
  clear h2 hg2 hn1 hp1 hl1 hr1 HM HR3 HB3
  go_wp2_with fail
  refine Pb.out.mono ?_
  rintro e w5 h2
  obtain ⟨hg2,n,a4,CK,rfl,hn1,hp1,hl1,hr1⟩:=kU.use h2
  have GQ:=aA (show dR 47 w.heap.size #[.int .i64 0,.int .i64 0,.int .i64 0] w5 from fI HR4.out hg2 (by have:=qV.out;omega))
  have CB:=aA (gW (aB _) Ha.out hg2 (fun k e=>by cases e;have:=qV.out;omega))
  have HD:=aA (VI (f:=(x1,x2,cs)) TM.out LQ.out HU1.out HU2.out HU3.out hr1)
  obtain ⟨_,_,c2,_,_⟩:=hp1.facts
  clear h2 hg2 hn1 hp1 hl1 hr1 Pb HR4 Ha HU1 HU2 HU3 LQ TM
  have Yz:=aA (show (Tryz.prog.info? 47).map (·.size)=some (#[.int .i64 x1,.int .i64 x2,.int .i64 n]:Array Value).size by kernel_rfl)
  have hszX:=aA (show 3=(#[.int .i64 x1,.int .i64 x2,.int .i64 n]:Array Value).size from rfl)
  have hozX:=aA (show (#[.int .i64 x1,.int .i64 x2,.int .i64 n]:Array Value).all (·.oneCell')=true by kernel_rfl)
  cases CK
  ·simp only [bE,if_false] at HD
   go_wp2_with (first | (with_reducible refine eQ (some 34) rfl ?_;refine aA ?_;refine fP rfl (.agg #[.int .i64 x1,.int .i64 x2,.int .i64 n]) w5 (by kernel_rfl) ?_) | (refine dQ rfl 47 (.tmp 2) (.tmp 34) rfl w.heap.size _ _ #[.int .i64 x1,.int .i64 x2,.int .i64 n] rfl rfl GQ.out Yz.out hszX.out hozX.out ?_))
   refine aO (v:=.tuple #[.agg #[.int .i64 x1,.int .i64 x2,.int .i64 n],.int .i64 0]) (iE rfl _ _ w.heap.size rfl (.int .i64 0) rfl 47 #[.int .i64 x1,.int .i64 x2,.int .i64 n] _ (setRow_heap _ _ _ _ _ _ GQ.out) Tryz.underlying47 rfl Yz.out) rfl ?_
   exact OV.out (x1,x2,n,0) _ HD.out (Below.row CB.out (aB _) _)
  ·simp only [if_true] at HD
   go_wp2_with (first | (with_reducible refine eQ (some 30) rfl ?_;refine aA ?_;refine fP rfl (.agg #[.int .i64 0,.int .i64 0,.int .i64 0]) w5 (by kernel_rfl) ?_) | (refine dQ rfl 47 (.tmp 2) (.tmp 30) rfl w.heap.size _ _ #[.int .i64 0,.int .i64 0,.int .i64 0] rfl rfl GQ.out hiz.out hsz.out Bz.out ?_))
   refine aO (v:=.tuple #[.agg #[.int .i64 0,.int .i64 0,.int .i64 0],.int .i64 70]) (iE rfl _ _ w.heap.size rfl (.int .i64 70) rfl 47 #[.int .i64 0,.int .i64 0,.int .i64 0] _ (setRow_heap _ _ _ _ _ _ GQ.out) Tryz.underlying47 rfl hiz.out) rfl ?_
   exact OV.out (0,0,0,70) _ HD.out (Below.row CB.out (aB _) _)
end Fx
end Go.Proofs.YtbbhmhihpdmoiaaGreat
