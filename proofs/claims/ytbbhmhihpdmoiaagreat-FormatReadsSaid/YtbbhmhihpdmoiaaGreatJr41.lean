import Derived.Test.YtbbhmhihpdmoiaaGreatJr40
set_option linter.unusedVariables false
set_option linter.unusedSimpArgs false
set_option maxRecDepth 100000
set_option maxHeartbeats 32000000
namespace Go.Proofs.YtbbhmhihpdmoiaaGreat
namespace Fx
open Go Go.RowKit
open Pk (iA Bs By)
theorem zu_r (o:Option Addr) (c:Nat) (l:List Nat) (p a:Nat) (lost:Bool) (w:World) (k:iA l a) (h:Pk.ZR o c l p a lost w) :
  Calls Tryz.prog 88 #[.pointer (some ⟨p,0,none⟩)] w fun e w'=>∃ (n b:Nat) (lo:Bool),e=.returned (.int .u64 (n:Int))∧n≤18446744073709551615∧b≤l.length∧Pk.ZR o c l p b lo w'∧w.grownBy w' (some p) ∧
   (n≤4294967295→fQ lost (pU 4294967295) l a=opt lo ((n:Int),b))∧(4294967295 < n→fQ lost (pU 4294967295) l a=none):=by
 refine (Pk.yI o c l p a lost w k h).mono ?_
 have hr:fQ lost (pU 4294967295) l a=match Pk.rq lost 18446744073709551615 (l.drop a) with
   | none=>none
   | some (n,j)=>if n≤4294967295 then some ((n:Int),a + j) else none:=by
  unfold fQ pU Pk.rq
  cases lost
  ·rw [aX (by simp),aX (by simp),Pk.uP _ (by unfold Pk.nW;omega)]
   show Option.map _ (match Pk.rd Pk.nW (l.drop a) with | none=>none | some (v,j)=>if v≤4294967295 then some (v,j) else none)=match Pk.rd Pk.nW (l.drop a) with | none=>none | some (n,j)=>if n≤4294967295 then some ((n:Int),a + j) else none
   cases Pk.rd Pk.nW (l.drop a) with
   | none=>rfl
   | some q =>
    obtain ⟨n,j⟩:=q
    dsimp only
    split <;> rfl
  ·rfl
 have hj:∀ n j,Pk.rq lost 18446744073709551615 (l.drop a)=some (n,j)→a + j≤l.length∧n≤18446744073709551615:=fun n j hq=>by
  unfold Pk.rq at hq
  split at hq
  ·cases hq
  ·have:=Pk.tJ hq
   have hdl:(l.drop a).length=l.length - a:=by simp
   have:=k.at'
   omega
 generalize Pk.rq lost 18446744073709551615 (l.drop a)=r at hr hj
 rintro e w' ⟨rfl,h1,h2⟩
 cases r with
 | none=>exact ⟨0,a,true,rfl,by omega,k.at',h1,h2,fun _=>by rw [hr];rfl,fun h=>by omega⟩
 | some q =>
  obtain ⟨n,j⟩:=q
  obtain ⟨h3,h4⟩:=hj n j rfl
  refine ⟨n,a + j,false,rfl,h4,h3,h1,h2,fun hn=>?_,fun hn=>?_⟩
  ·rw [hr]
   dsimp only
   rw [aT hn]
   rfl
  ·rw [hr]
   dsimp only
   rw [aX (by omega)]
theorem XV (B:Nat) (o:Option Addr) (c:Nat) (l:List Nat) (p a:Nat) (lost:Bool) (w:World) (hB:B≤w.heap.size) (k:iA l a) (h:Pk.ZR o c l p a lost w) (iQ:∀ b off,o=some ⟨b,off,none⟩→0 < l.length→b < w.heap.size) :
  Calls Tryz.prog 48 #[.pointer (some ⟨p,0,none⟩)] w (ZObj B p a lost o c l w):=by
 obtain ⟨ZC,Vb⟩:∃ Z:Array Value,#[.int .i64 0,.int .i64 0,.int .i64 0,.int .i64 0,.int .i64 0,.int .i64 0,.int .i64 0,.int .i64 0,.int .i64 0,.int .i64 0,.int .i64 0,.int .i64 0,.int .i64 0,.int .i64 0,.int .i64 0,.int .i64 0,.int .i64 0,.slice none 0 0,.slice none 0 0]=Z:=⟨_,rfl⟩
 have HZC:=aA Vb
 obtain ⟨A0,Rs⟩:∃ V,w.alloc (.cells #[.int .i64 0,.int .i64 0,.int .i64 0,.int .i64 0,.int .i64 0,.int .i64 0,.int .i64 0,.int .i64 0,.int .i64 0,.int .i64 0,.int .i64 0,.int .i64 0,.int .i64 0,.int .i64 0,.int .i64 0,.int .i64 0,.int .i64 0,.slice none 0 0,.slice none 0 0] 73)=V:=⟨_,rfl⟩
 have HA0:=aA Rs
 have HAZ:=aA (show A0.heap.size=w.heap.size + 1 by rw [←Rs];simp)
 obtain ⟨A1,hA1⟩:∃ V,A0.alloc (.cells #[.int .i64 0,.int .i64 0,.int .i64 0,.int .i64 0,.int .i64 0,.int .i64 0,.int .i64 0,.int .i64 0,.int .i64 0,.int .i64 0,.int .i64 0,.int .i64 0,.int .i64 0,.int .i64 0,.int .i64 0,.int .i64 0,.int .i64 0,.slice none 0 0,.slice none 0 0] 73)=V:=⟨_,rfl⟩
 have HA1:=aA hA1
 rw [←Rs] at hA1
 obtain ⟨V0,lI⟩:∃ V,A1.setRow (w.heap.size + 1) ZC=V:=⟨_,rfl⟩
 have ra:dR 73 (w.heap.size + 1) #[.int .i64 0,.int .i64 0,.int .i64 0,.int .i64 0,.int .i64 0,.int .i64 0,.int .i64 0,.int .i64 0,.int .i64 0,.int .i64 0,.int .i64 0,.int .i64 0,.int .i64 0,.int .i64 0,.int .i64 0,.int .i64 0,.int .i64 0,.slice none 0 0,.slice none 0 0] A1:=by
  rw [←hA1]
  have:=aG (w.alloc (.cells #[.int .i64 0,.int .i64 0,.int .i64 0,.int .i64 0,.int .i64 0,.int .i64 0,.int .i64 0,.int .i64 0,.int .i64 0,.int .i64 0,.int .i64 0,.int .i64 0,.int .i64 0,.int .i64 0,.int .i64 0,.int .i64 0,.int .i64 0,.slice none 0 0,.slice none 0 0] 73)) (.cells #[.int .i64 0,.int .i64 0,.int .i64 0,.int .i64 0,.int .i64 0,.int .i64 0,.int .i64 0,.int .i64 0,.int .i64 0,.int .i64 0,.int .i64 0,.int .i64 0,.int .i64 0,.int .i64 0,.int .i64 0,.int .i64 0,.int .i64 0,.slice none 0 0,.slice none 0 0] 73)
  rw [aR] at this
  exact this
 have hb0:Below w.heap.size w V0:=by rw [←lI,←hA1];exact Below.row (((aI _ _).alloc (aB _) _).alloc (by simp) _) (by omega) _
 have h0:LK o c l p a lost 0 eX (.slice none 0 0) (.slice none 0 0) w V0:=by
  refine ⟨?_,?_,h.below hb0,k.at',Pk.below_grown hb0 (some p)⟩
  ·rw [←lI,setRow_other _ _ _ _ (by omega),←hA1];exact dW (aG _ _)
  ·rw [←lI,←Vb];exact ra.row _
 have H0:=aA h0
 have HK:=aA k
 have HP:=aA h.lt
 have jJ:=aA iQ
 have Ga:=aA hB
 have qJ:=aA lI
 have HRA:=aA ra
 have CU:=aA (kE 65535 (by omega) o c l p a lost V0 k h0.rd)
 have hzo:=aA (show (Tryz.prog.info? 73).map (·.size)=some ZC.size by rw [←Vb];kernel_rfl)
 have hz3:=aA (show 19=ZC.size by rw [←Vb];rfl)
 have Xw:=aA (show ZC.all (·.oneCell')=true by rw [←Vb];kernel_rfl)
 clear h hb0 k hA1 lI iQ h0 hB ra Rs Vb
 go_enter Tryz.func48,Tryz.ntmps48
 go_wp2_with (first | (rw [HA0.out]) | (rw [HA1.out]) | (rw [HAZ.out]) | (rw [qJ.out]) | (with_reducible refine eQ (some 10) rfl ?_;refine aA ?_;refine fP rfl (.agg ZC) A0 (by rw [←HZC.out];kernel_rfl) ?_) | (refine dQ rfl 73 (.tmp 3) (.tmp 10) rfl (w.heap.size + 1) _ _ ZC rfl rfl HRA.out hzo.out hz3.out Xw.out ?_))
 refine CU.out.mono ?_
 rintro e w1 h1
 obtain ⟨hg1,x1,a1,lo1,rfl,hn1,hp1,hl1,hr1⟩:=kU.use h1
 have ht1:=H0.out.step HP.out hg1 hp1 hl1
 obtain ⟨q0,f0⟩:=ht1.cell (j:=0) rfl
 have ht2:=ht1.set (j:=0) (u:=.int .i64 x1) (id2:=x1) (m2:=eX) (u1:=.slice none 0 0) (u2:=.slice none 0 0) HP.out jJ.out rfl
 obtain ⟨Y1,wZ⟩:∃ V,w1.setCell ⟨w.heap.size + 1,0,none⟩ (.int .i64 x1)=V:=⟨_,rfl⟩
 rw [wZ] at ht2
 have H2:=aA ht2
 have WZ:=aA hn1
 have HR1:=aA hr1
 have Ev:=aA wZ
 have mP:∀ b off,o=some ⟨b,off,none⟩→0 < l.length→b < Y1.heap.size:=fun b off e hm=>aM (jJ.out b off e hm) ht2.grow.size
 have HM:=aA (vT o c l p a1 lo1 Y1 (iO HK.out hl1) ht2.rd mP)
 clear h1 hg1 hn1 hp1 hl1 hr1 ht1 ht2 wZ mP CU H0 qJ HA0 HA1 HAZ HRA hzo hz3 Xw HZC
 go_wp2_with (rw [Ev.out])
 clear Ev q0 f0
 refine HM.out.mono ?_
 rintro e w2 h2
 obtain ⟨hg2,zs,a2,lo2,rfl,hn2,hp2,hl2,hr2⟩:=kU.use h2
 have ht3:=H2.out.step HP.out hg2 hp2 hl2
 have nL:w2.there (w.heap.size + 1) 1 (mC zs).size:=fun j hj=>by
  rw [fT,hn2.1] at hj
  refine ⟨?_,dU ht3.box⟩
  rw [aF _ _ _ _ _ _ ht3.box]
  simp [mE,eX]
  omega
 obtain ⟨Y2,hY2⟩:∃ V,w2.setCells (w.heap.size + 1) 1 (mC zs).toList=V:=⟨_,rfl⟩
 have FN:LK o c l p a2 lo2 x1 zs (.slice none 0 0) (.slice none 0 0) w Y2:=by
  have zO:Below w.heap.size w2 Y2:=by rw [←hY2];exact mJ (by omega) _ _ ⟨rfl,rfl,rfl,aB _,fun _ _=>rfl⟩
  refine ht3.put HP.out jJ.out zO ?_ ?_
  ·rw [←hY2]
   exact kY (by omega) _ _ _
  ·have:=kX (mC zs).toList [.int .i64 x1] (eX.map encI) [.slice none 0 0,.slice none 0 0] w2 (by simp [mC,eX,hn2.1]) (by exact ht3.box)
   rw [←hY2]
   rw [show ([Value.int .i64 x1]:List Value).length=1 from rfl] at this
   rw [this]
   simp [mE,mC]
 have hi2:=aA (show (Tryz.prog.info? 25).map (·.size)=some (mC zs).size by rw [fT,hn2.1];kernel_rfl)
 have Gs:=aA nL
 have H4:=aA FN
 have BK:=aA hn2
 have HR2:=aA hr2
 have BG:=aA hY2
 have HL2:=aA hl2
 have Pb:=aA (kE 64 (by omega) o c l p a2 lo2 Y2 (iO HK.out hl2) FN.rd)
 clear h2 hg2 hn2 hp2 hl2 hr2 ht3 FN nL hY2 HM H2
 go_wp2_with (first | (rw [BG.out]) | (refine wpList_store_mid rfl 25 (.tmp 16) (.tmp 15) rfl (w.heap.size + 1) 1 (mC zs) rfl rfl Gs.out hi2.out (iY _) ?_))
 clear BG Gs
 refine Pb.out.mono ?_
 rintro e w3 h3
 obtain ⟨hg3,nz,a3,lo3,rfl,hnz,hp3,hl3,hr3⟩:=kU.use h3
 obtain ⟨nv,rfl⟩:=Int.eq_ofNat_of_zero_le hnz.1
 have v64:(nv:Int)≤64:=hnz.2
 have v0:(0:Int)≤(nv:Int):=by omega
 have Fs:Hid (EE o c l p a3 lo3 x1 zs none 0 [] none 0 [] w w3):=aA ⟨H4.out.step HP.out hg3 hp3 hl3,iD.nil _ _ _ _ _,iD.nil _ _ _ _ _,fun z hz=>by simp at hz,fun z hz=>by simp at hz⟩
 have HR3:=aA hr3
 clear h3 hg3 hp3 hl3 hr3 hnz Pb H4
 go_wp2_with fail
 go_loopg [5] nv (fun g s5 wx=>∃ (vs:List (List Int)) (ov:Option Addr) (cv b:Nat) (lo:Bool),g=nv - vs.length∧s5=.int .i64 (vs.length:Int)∧vs.length≤nv∧EE o c l p b lo x1 zs ov cv vs none 0 [] w wx∧fQ lo3 (gK nI vs.length) l a3=opt lo (vs,b))
 case atStart=>exact ⟨[],none,0,a3,lo3,rfl,rfl,by simp,Fs.out,nG _ _ _ _⟩
 case round =>
  obtain ⟨vs,ov,cv,b,lo,rfl,rfl,hk,hj,hrun⟩:=hrel
  obtain ⟨w6,kP⟩:∃ X,X=wr:=⟨_,rfl⟩
  subst kP
  have HJ:=aA hj
  have Uc:=aA hrun
  clear hj hrun Fs
  obtain ⟨nvs,Ca⟩:∃ n,vs.length=n:=⟨_,rfl⟩
  have HNV:=aA Ca
  have k0:(0:Int)≤(vs.length:Int):=by omega
  clear Ca
  by_cases hkn:vs.length < nv
  ·have t2:(vs.length:Int) < (nv:Int):=by omega
   have HVL:=aA (show vs.length≤1000 by omega)
   obtain ⟨V1,hV1⟩:∃ V,w6.alloc (.cells #[.int .i64 0,.int .i64 0,.int .i64 0] 85)=V:=⟨_,rfl⟩
   have b1:Below w6.heap.size w6 V1:=by rw [←hV1];exact (aI _ _).alloc (aB _) _
   have hr1:dR 85 w6.heap.size #[.int .i64 0,.int .i64 0,.int .i64 0] V1:=by rw [←hV1];exact dR.new _ _ _
   have hj1:=HJ.out.up b1
   have Fe:=aA (show (Value.slice ov vs.length cv).ownBlock≠some w6.heap.size from fun e=>by have:=HJ.out.vo.lt _ e;omega)
   have Mh:=aA (show (Value.slice none ([]:List iH).length 0).ownBlock≠some w6.heap.size from fun e=>by cases e)
   have Ml:=aA HJ.out.lt
   have Mg:=aA (show w6.heap.size≠p by have:=HP.out;have:=HJ.out.lt;omega)
   have TL:=aA hj1
   have HRW:=aA hr1
   have HI1:=aA (xI o c l p b lo V1 (iO HK.out hj1.base.le) hj1.base.rd)
   have Oz:=aA hV1
   clear b1 hr1 hj1 hV1 HJ
   go_wp2_with (rw [Oz.out])
   clear Oz
   refine HI1.out.mono ?_
   rintro e x31 h3
   obtain ⟨hg,z1,b31,Ra,rfl,hn,hp,hl,hr⟩:=kU.use h3
   have rx:dR 85 w6.heap.size #[.int .i64 0,.int .i64 0,.int .i64 0] x31:=fI HRW.out hg Mg.out
   have jx:=TL.out.step HP.out hg hp hl
   obtain ⟨Y31,hY⟩:∃ V,x31.setCell ⟨w6.heap.size,0,none⟩ (.int .i64 z1)=V:=⟨_,rfl⟩
   have e1:x31.cell? ⟨w6.heap.size,0,none⟩=some (.int .i64 0):=by rw [aF _ _ _ _ _ _ rx];rfl
   have g1:x31.frozen? ⟨w6.heap.size,0,none⟩=false:=dU rx
   have ry:dR 85 w6.heap.size #[.int .i64 z1,.int .i64 0,.int .i64 0] Y31:=by
    have:=aK _ _ 0 _ _ (.int .i64 z1) rx
    rw [hY] at this
    exact this
   have jy:=jx.put HP.out jJ.out (j:=0) (u:=.int .i64 z1) rx (by decide) (by decide) Fe.out Mh.out Ml.out
   rw [hY] at jy
   have HJ2:=aA jy
   have Ey:=aA ry
   have HN31:=aA hn
   have HR31:=aA hr
   have Eu:=aA hY
   have HI2:=aA (xI o c l p b31 Ra Y31 (iO HK.out jy.base.le) jy.base.rd)
   clear h3 hg hn hp hl hr rx jx ry jy hY HI1 TL HRW
   go_wp2_with (rw [Eu.out])
   clear e1 g1 Eu
   refine HI2.out.mono ?_
   rintro e x32 h3
   obtain ⟨hg,z2,b32,Qz,rfl,hn,hp,hl,hr⟩:=kU.use h3
   have rx:dR 85 w6.heap.size #[.int .i64 z1,.int .i64 0,.int .i64 0] x32:=fI Ey.out hg Mg.out
   have jx:=HJ2.out.step HP.out hg hp hl
   obtain ⟨Y32,hY⟩:∃ V,x32.setCell ⟨w6.heap.size,1,none⟩ (.int .i64 z2)=V:=⟨_,rfl⟩
   have e2:x32.cell? ⟨w6.heap.size,1,none⟩=some (.int .i64 0):=by rw [aF _ _ _ _ _ _ rx];rfl
   have g2:x32.frozen? ⟨w6.heap.size,1,none⟩=false:=dU rx
   have ry:dR 85 w6.heap.size #[.int .i64 z1,.int .i64 z2,.int .i64 0] Y32:=by
    have:=aK _ _ 1 _ _ (.int .i64 z2) rx
    rw [hY] at this
    exact this
   have jy:=jx.put HP.out jJ.out (j:=1) (u:=.int .i64 z2) rx (by decide) (by decide) Fe.out Mh.out Ml.out
   rw [hY] at jy
   have Fs:=aA jy
   have Ex:=aA ry
   have HN32:=aA hn
   have HR32:=aA hr
   have Et:=aA hY
   have HI3:=aA (xI o c l p b32 Qz Y32 (iO HK.out jy.base.le) jy.base.rd)
   clear h3 hg hn hp hl hr rx jx ry jy hY HI2 HJ2 Ey
   go_wp2_with (rw [Et.out])
   clear e2 g2 Et
   refine HI3.out.mono ?_
   rintro e Ht h3
   obtain ⟨hg,z3,b33,Jl,rfl,hn,hp,hl,hr⟩:=kU.use h3
   have rx:dR 85 w6.heap.size #[.int .i64 z1,.int .i64 z2,.int .i64 0] Ht:=fI Ex.out hg Mg.out
   have jx:=Fs.out.step HP.out hg hp hl
   obtain ⟨Ef,hY⟩:∃ V,Ht.setCell ⟨w6.heap.size,2,none⟩ (.int .i64 z3)=V:=⟨_,rfl⟩
   have e3:Ht.cell? ⟨w6.heap.size,2,none⟩=some (.int .i64 0):=by rw [aF _ _ _ _ _ _ rx];rfl
   have g3:Ht.frozen? ⟨w6.heap.size,2,none⟩=false:=dU rx
   have ry:dR 85 w6.heap.size #[.int .i64 z1,.int .i64 z2,.int .i64 z3] Ef:=by
    have:=aK _ _ 2 _ _ (.int .i64 z3) rx
    rw [hY] at this
    exact this
   have jy:=jx.put HP.out jJ.out (j:=2) (u:=.int .i64 z3) rx (by decide) (by decide) Fe.out Mh.out Ml.out
   rw [hY] at jy
   have XO:=aA jy
   have Md:=aA ry
   have HN33:=aA hn
   have HR33:=aA hr
   have Es:=aA hY
   clear h3 hg hn hp hl hr rx jx ry jy hY HI3 Fs Ex
   obtain ⟨v,hv⟩:∃ v:List Int,[z1,z2,z3]=v:=⟨_,rfl⟩
   have hvw:jX v:=by
    rw [←hv]
    refine ⟨rfl,fun j=>?_⟩
    match j with
    | 0=>exact HN31.out
    | 1=>exact HN32.out
    | 2=>exact HN33.out
    | j + 3=>exact ⟨by simp,by simp⟩
   have hvr:fQ lo nI l b=opt Jl (v,b33):=by
    rw [←hv]
    exact iV (iV (iV (nG pI l lo b) HR31.out) HR32.out) HR33.out
   obtain ⟨V5,FU⟩:∃ V,Ef.alloc (.cells (v.map encI).toArray 85)=V:=⟨_,rfl⟩
   have b5:Below Ef.heap.size Ef V5:=by rw [←FU];exact (aI _ _).alloc (aB _) _
   have qC:=aA (show Ef.rangeAt w6.heap.size 0 (v.map encI) from fun j u hj=>by rw [bB,aF _ _ _ _ _ _ Md.out];rw [←hv] at hj;simpa [encI] using hj)
   have yG:=aA (XO.out.up b5)
   have qD:=aA (show V5.heap[Ef.heap.size]?=some (.cells (v.map encI).toArray 85 (0,0)) by rw [←FU];exact aG _ _)
   have s17:Ef.cell? ⟨w.heap.size + 1,17,none⟩=some (.slice ov vs.length cv):=(XO.out.base.cell (j:=17) (by simp [mE,BK.out.1])).1
   have HVW:=aA hvw
   have HVR:=aA hvr
   have OT:Hid (w.heap.size + 2≤V5.heap.size):=aA (by have:=yG.out.lt;omega)
   have hit:=aA (show (Tryz.prog.info? 85).map (·.size)=some (v.map encI).length by rw [bI,hvw.len];kernel_rfl)
   have HL3:Hid ((v.map encI).toArray.size=3):=aA (by rw [aL,bI,hvw.len])
   have HV5:=aA FU
   clear hv hvw hvr b5 FU XO Md HN31 HN32 HN33 HR31 HR32 HR33
   go_wp2_with (first | (rw [Es.out]) | (rw [HV5.out]) | (with_reducible refine eQ (some 35) rfl ?_;refine aA ?_;refine wpList_load_mid rfl 85 (.tmp 6) rfl w6.heap.size 0 rfl (v.map encI) _ qC.out dA rfl hit.out ?_) | (with_reducible refine eQ (some 36) rfl ?_;refine aA ?_;refine lU FL (by omega) rfl (.tmp 35) 70 rfl Tryz.underlying70 (v.map encI).toArray rfl HL3.out ?_) | (at_builtin;refine AV FL rfl (.tmp 34) (.tmp 36) 70 rfl Tryz.underlying70 (w.heap.size + 2) (.slice ov vs.length cv) vs [v] rfl OT.out yG.out.vo (some ⟨Ef.heap.size,0,none⟩) 1 rfl (fun h=>by cases h) (pW qD.out) (fun z hz=>by simp at hz;subst hz;have:=HL3.out;rwa [aL] at this) (fun z _=>yB z) (by have:=HVL.out;simp;omega) ?_))
   clear s17 e3 g3
   intro v4 X5 NR hg5
   refine aA ?_
   obtain ⟨ow,cw,hvw,_,_⟩:=NR.form (fun z hz=>by
    rcases bU.1 hz with hz | hz
    ·rw [bI];exact (yG.out.vw z hz).len
    ·simp at hz;subst hz;rw [bI];exact HVW.out.len)
   subst hvw
   have FO:=yG.out.appV (v':=.slice ow (vs ++ [v]).length cw) HP.out jJ.out NR hg5 HVW.out BK.out.1
   have f18:X5.cell? ⟨w.heap.size + 1,17,none⟩=some (.slice ov vs.length cv):=FO.1
   have f19:X5.frozen? ⟨w.heap.size + 1,17,none⟩=false:=FO.2.1
   have Fq:=aA FO.2.2
   have XN:=aA (iV Uc.out HVR.out)
   obtain ⟨ml,hml⟩:∃ ml,(vs ++ [v]).length=ml:=⟨_,rfl⟩
   have XA:=aA hml
   rw [hml] at Fq ⊢
   clear NR hg5 FO hml yG qD qC HV5 Es
   go_wp2_with fail
   go_roundg (nv - (vs.length + 1))
   case measure=>omega
   case rel=>exact ⟨vs ++ [v],ow,cw,_,_,by simp,by rw [aY];go_num,by simp;omega,Fq.out,by rw [aY];exact XN.out⟩
  ·obtain ⟨b9,CL⟩:∃ n,n=b:=⟨_,rfl⟩
   obtain ⟨lo9,hlo9⟩:∃ n,n=lo:=⟨_,rfl⟩
   subst CL
   subst hlo9
   have hnv:vs.length=nv:=by omega
   have t2:¬ (vs.length:Int) < (nv:Int):=by omega
   have Gt:=aA (show fQ lo2 (jA 64 nI) l a2=opt lo9 (vs,b9) from vZ HR3.out (by rw [show ((nv:Int)).toNat=vs.length by omega];exact Uc.out))
   have HS5:=aA (kE 64 (by omega) o c l p b9 lo9 w6 (iO HK.out HJ.out.base.le) HJ.out.base.rd)
   clear hnv
   go_wp2_with fail
   refine HS5.out.mono ?_
   rintro e w5 h5
   obtain ⟨hg5,nz5,a5,lo5,rfl,Rj,Yl,hl5,Gf⟩:=kU.use h5
   obtain ⟨nt,rfl⟩:=Int.eq_ofNat_of_zero_le Rj.1
   have u64:(nt:Int)≤64:=Rj.2
   have u0:(0:Int)≤(nt:Int):=by omega
   have yG:=aA (HJ.out.step HP.out hg5 Yl hl5)
   have GQ:=aA Gf
   clear h5 hg5 Yl hl5 Gf Rj HS5 HJ Uc HR3
   go_wp2_with fail
   go_loopg [7] nt (fun g s7 wx=>∃ (ts:List iH) (ot:Option Addr) (ct b:Nat) (lo:Bool),g=nt - ts.length∧s7=.int .i64 (ts.length:Int)∧ts.length≤nt∧EE o c l p b lo x1 zs ov cv vs ot ct ts w wx∧fQ lo5 (gK tH ts.length) l a5=opt lo (ts,b))
   case atStart=>exact ⟨[],none,0,a5,lo5,rfl,rfl,by simp,yG.out,nG _ _ _ _⟩
   case round =>
    obtain ⟨ts,ot,ct,b,lo,rfl,rfl,hk,hj,hrun⟩:=hrel
    obtain ⟨w8,hw8⟩:∃ X,X=wr:=⟨_,rfl⟩
    subst hw8
    have HJ:=aA hj
    have HRT:=aA hrun
    clear hj hrun yG
    have k1:(0:Int)≤(ts.length:Int):=by omega
    by_cases hkt:ts.length < nt
    ·have t3:(ts.length:Int) < (nt:Int):=by omega
     have HTL:=aA (show ts.length≤1000 by omega)
     obtain ⟨ZT,Va⟩:∃ Z:Array Value,#[.int .i64 0,.int .i64 0,.int .i64 0,.int .u32 0]=Z:=⟨_,rfl⟩
     have HZT:=aA Va
     obtain ⟨V1,hV1⟩:∃ V,w8.alloc (.cells #[.int .i64 0,.int .i64 0,.int .i64 0,.int .u32 0] 87)=V:=⟨_,rfl⟩
     obtain ⟨V2,hV2⟩:∃ V,V1.setRow w8.heap.size ZT=V:=⟨_,rfl⟩
     have hr1:dR 87 w8.heap.size #[.int .i64 0,.int .i64 0,.int .i64 0,.int .u32 0] V1:=by rw [←hV1];exact dR.new _ _ _
     have hr2:dR 87 w8.heap.size #[.int .i64 0,.int .i64 0,.int .i64 0,.int .u32 0] V2:=by rw [←hV2,←Va];exact hr1.row _
     have b1:Below w8.heap.size w8 V2:=by rw [←hV2,←hV1];exact Below.row ((aI _ _).alloc (aB _) _) (aB _) _
     have hj1:=HJ.out.up b1
     have Fe:=aA (show (Value.slice ov vs.length cv).ownBlock≠some w8.heap.size from fun e=>by have:=HJ.out.vo.lt _ e;omega)
     have Mh:=aA (show (Value.slice ot ts.length ct).ownBlock≠some w8.heap.size from fun e=>by have:=HJ.out.tv.lt _ e;omega)
     have Ml:=aA HJ.out.lt
     have Mg:=aA (show w8.heap.size≠p by have:=HP.out;have:=HJ.out.lt;omega)
     have TL:=aA hj1
     have HRW:=aA hr2
     have HRQ:=aA hr1
     have hz1:=aA (show (Tryz.prog.info? 87).map (·.size)=some ZT.size by rw [←Va];kernel_rfl)
     have hz3:=aA (show 4=ZT.size by rw [←Va];rfl)
     have Xw:=aA (show ZT.all (·.oneCell')=true by rw [←Va];kernel_rfl)
     have HI1:=aA (kE 63 (by omega) o c l p b lo V2 (iO HK.out hj1.base.le) hj1.base.rd)
     have Oz:=aA hV1
     have uJ:=aA hV2
     clear b1 hr1 hr2 hj1 hV1 hV2 HJ Va
     go_wp2_with (first | (rw [Oz.out]) | (rw [uJ.out]) | (with_reducible refine eQ (some 46) rfl ?_;refine aA ?_;refine fP rfl (.agg ZT) w8 (by rw [←HZT.out];kernel_rfl) ?_) | (refine dQ rfl 87 (.tmp 8) (.tmp 46) rfl w8.heap.size _ _ ZT rfl rfl HRQ.out hz1.out hz3.out Xw.out ?_))
     clear Oz uJ HRQ hz1 hz3 Xw HZT
     refine HI1.out.mono ?_
     rintro e x31 h3
     obtain ⟨hg,y1,b31,Ra,rfl,hn,hp,hl,hr⟩:=kU.use h3
     have rx:dR 87 w8.heap.size #[.int .i64 0,.int .i64 0,.int .i64 0,.int .u32 0] x31:=fI HRW.out hg Mg.out
     have jx:=TL.out.step HP.out hg hp hl
     obtain ⟨Y31,hY⟩:∃ V,x31.setCell ⟨w8.heap.size,0,none⟩ (.int .i64 y1)=V:=⟨_,rfl⟩
     have e1:x31.cell? ⟨w8.heap.size,0,none⟩=some (.int .i64 0):=by rw [aF _ _ _ _ _ _ rx];rfl
     have g1:x31.frozen? ⟨w8.heap.size,0,none⟩=false:=dU rx
     have ry:dR 87 w8.heap.size #[.int .i64 y1,.int .i64 0,.int .i64 0,.int .u32 0] Y31:=by
      have:=aK _ _ 0 _ _ (.int .i64 y1) rx
      rw [hY] at this
      exact this
     have jy:=jx.put HP.out jJ.out (j:=0) (u:=.int .i64 y1) rx (by decide) (by decide) Fe.out Mh.out Ml.out
     rw [hY] at jy
     have HJ2:=aA jy
     have Ey:=aA ry
     have Oy:=aA hn
     have HRR1:=aA hr
     have Eu:=aA hY
     have HI2:=aA (kE 63 (by omega) o c l p b31 Ra Y31 (iO HK.out jy.base.le) jy.base.rd)
     clear h3 hg hn hp hl hr rx jx ry jy hY HI1 TL HRW
     go_wp2_with (rw [Eu.out])
     clear e1 g1 Eu
     refine HI2.out.mono ?_
     rintro e x32 h3
     obtain ⟨hg,y2,b32,Qz,rfl,hn,hp,hl,hr⟩:=kU.use h3
     have rx:dR 87 w8.heap.size #[.int .i64 y1,.int .i64 0,.int .i64 0,.int .u32 0] x32:=fI Ey.out hg Mg.out
     have jx:=HJ2.out.step HP.out hg hp hl
     obtain ⟨Y32,hY⟩:∃ V,x32.setCell ⟨w8.heap.size,1,none⟩ (.int .i64 y2)=V:=⟨_,rfl⟩
     have e2:x32.cell? ⟨w8.heap.size,1,none⟩=some (.int .i64 0):=by rw [aF _ _ _ _ _ _ rx];rfl
     have g2:x32.frozen? ⟨w8.heap.size,1,none⟩=false:=dU rx
     have ry:dR 87 w8.heap.size #[.int .i64 y1,.int .i64 y2,.int .i64 0,.int .u32 0] Y32:=by
      have:=aK _ _ 1 _ _ (.int .i64 y2) rx
      rw [hY] at this
      exact this
     have jy:=jx.put HP.out jJ.out (j:=1) (u:=.int .i64 y2) rx (by decide) (by decide) Fe.out Mh.out Ml.out
     rw [hY] at jy
     have Fs:=aA jy
     have Ex:=aA ry
     have WV:=aA hn
     have HRR2:=aA hr
     have Et:=aA hY
     have HI3:=aA (kE 63 (by omega) o c l p b32 Qz Y32 (iO HK.out jy.base.le) jy.base.rd)
     clear h3 hg hn hp hl hr rx jx ry jy hY HI2 HJ2 Ey
     go_wp2_with (rw [Et.out])
     clear e2 g2 Et
     refine HI3.out.mono ?_
     rintro e Ht h3
     obtain ⟨hg,y3,b33,Jl,rfl,hn,hp,hl,hr⟩:=kU.use h3
     have rx:dR 87 w8.heap.size #[.int .i64 y1,.int .i64 y2,.int .i64 0,.int .u32 0] Ht:=fI Ex.out hg Mg.out
     have jx:=Fs.out.step HP.out hg hp hl
     obtain ⟨Ef,hY⟩:∃ V,Ht.setCell ⟨w8.heap.size,2,none⟩ (.int .i64 y3)=V:=⟨_,rfl⟩
     have e3:Ht.cell? ⟨w8.heap.size,2,none⟩=some (.int .i64 0):=by rw [aF _ _ _ _ _ _ rx];rfl
     have g3:Ht.frozen? ⟨w8.heap.size,2,none⟩=false:=dU rx
     have ry:dR 87 w8.heap.size #[.int .i64 y1,.int .i64 y2,.int .i64 y3,.int .u32 0] Ef:=by
      have:=aK _ _ 2 _ _ (.int .i64 y3) rx
      rw [hY] at this
      exact this
     have jy:=jx.put HP.out jJ.out (j:=2) (u:=.int .i64 y3) rx (by decide) (by decide) Fe.out Mh.out Ml.out
     rw [hY] at jy
     have XO:=aA jy
     have Md:=aA ry
     have Ew:=aA hn
     have HRR3:=aA hr
     have Es:=aA hY
     have HU:=aA (zu_r o c l p b33 Jl Ef (iO HK.out jy.base.le) jy.base.rd)
     have HRW4:=Md
     clear h3 hg hn hp hl hr rx jx ry jy hY HI3 Fs Ex
     go_wp2_with (rw [Es.out])
     clear e3 g3 Es
     refine HU.out.mono ?_
     rintro e x4 ⟨n4,b4,CK,rfl,Js,hl4,NQ,hg4,hA,hB4⟩
     have Qe:dR 87 w8.heap.size #[.int .i64 y1,.int .i64 y2,.int .i64 y3,.int .u32 0] x4:=fI HRW4.out hg4 Mg.out
     have Uy:=XO.out.step HP.out hg4 NQ hl4
     have n40:(0:Int)≤(n4:Int):=by omega
     have n41:(n4:Int)≤18446744073709551615:=by omega
     by_cases hn5:n4≤4294967295
     ·have t5:¬ (4294967295:Int) < (n4:Int):=by omega
      have t6:(n4:Int)≤4294967295:=by omega
      have Zm:=hA hn5
      obtain ⟨Y4,vJ⟩:∃ V,x4.setCell ⟨w8.heap.size,3,none⟩ (.int .u32 (n4:Int))=V:=⟨_,rfl⟩
      have e3:x4.cell? ⟨w8.heap.size,3,none⟩=some (.int .u32 0):=by rw [aF _ _ _ _ _ _ Qe];rfl
      have g3:x4.frozen? ⟨w8.heap.size,3,none⟩=false:=dU Qe
      have Vy:dR 87 w8.heap.size #[.int .i64 y1,.int .i64 y2,.int .i64 y3,.int .u32 (n4:Int)] Y4:=by
       have:=aK _ _ 3 _ _ (.int .u32 (n4:Int)) Qe
       rw [vJ] at this
       exact this
      have Jo:=Uy.put HP.out jJ.out (j:=3) (u:=.int .u32 (n4:Int)) Qe (by decide) (by decide) Fe.out Mh.out Ml.out
      rw [vJ] at Jo
      obtain ⟨t,ht⟩:∃ t:iH,(⟨y1,y2,y3,(n4:Int)⟩:iH)=t:=⟨_,rfl⟩
      have LH:mX t:=by rw [←ht];exact ⟨kJ (by omega) Oy.out,kJ (by omega) WV.out,kJ (by omega) Ew.out,by show (0:Int)≤(n4:Int);omega,by show (n4:Int) < 4294967296;omega⟩
      have htr:fQ lo tH l b=opt CK (t,b4):=by
       have:=yT IJ (gG HRR1.out (gG HRR2.out (gG HRR3.out Zm)))
       rw [←ht]
       exact this
      obtain ⟨V5,FU⟩:∃ V,Y4.alloc (.cells (fV t).toArray 87)=V:=⟨_,rfl⟩
      have b5:Below Y4.heap.size Y4 V5:=by rw [←FU];exact (aI _ _).alloc (aB _) _
      have qC:=aA (show Y4.rangeAt w8.heap.size 0 (fV t) from fun j u hj=>by rw [bB,aF _ _ _ _ _ _ Vy];rw [←ht] at hj;simpa [fV] using hj)
      have yG:=aA (Jo.up b5)
      have qD:=aA (show V5.heap[Y4.heap.size]?=some (.cells (fV t).toArray 87 (0,0)) by rw [←FU];exact aG _ _)
      have Im:Y4.cell? ⟨w.heap.size + 1,18,none⟩=some (.slice ot ts.length ct):=(Jo.base.cell (j:=18) (by simp [mE,BK.out.1])).1
      have HTW:=aA LH
      have HTR:=aA htr
      have OT:Hid (w.heap.size + 2≤V5.heap.size):=aA (by have:=yG.out.lt;omega)
      have hit:=aA (show (Tryz.prog.info? 87).map (·.size)=some (fV t).length by kernel_rfl)
      have LM:=aA vJ
      have HV5:=aA FU
      clear Uy Qe Jo Vy ht LH htr b5 vJ FU NQ hg4 hA hB4 Zm
      go_wp2_with (first | (rw [LM.out]) | (rw [HV5.out]) | (with_reducible refine eQ (some 68) rfl ?_;refine aA ?_;refine wpList_load_mid rfl 87 (.tmp 8) rfl w8.heap.size 0 rfl (fV t) _ qC.out cZ rfl hit.out ?_) | (with_reducible refine eQ (some 69) rfl ?_;refine aA ?_;refine lU wG (by omega) rfl (.tmp 68) 71 rfl dK (fV t).toArray rfl rfl ?_) | (at_builtin;refine AV wG rfl (.tmp 67) (.tmp 69) 71 rfl dK (w.heap.size + 2) (.slice ot ts.length ct) ts [t] rfl OT.out yG.out.tv (some ⟨Y4.heap.size,0,none⟩) 1 rfl (fun h=>by cases h) (pW qD.out) (fun z hz=>rfl) (fun z _=>uM z) (by have:=HTL.out;simp;omega) ?_))
      clear e3 g3 Im
      intro v4 X5 NR hg5
      refine aA ?_
      obtain ⟨ow,cw,hvw,_,_⟩:=NR.form (fun z hz=>rfl)
      subst hvw
      have FO:=yG.out.appT HP.out jJ.out NR hg5 HTW.out BK.out.1
      have f18:X5.cell? ⟨w.heap.size + 1,18,none⟩=some (.slice ot ts.length ct):=FO.1
      have f19:X5.frozen? ⟨w.heap.size + 1,18,none⟩=false:=FO.2.1
      have Fq:=aA FO.2.2
      have XN:=aA (iV HRT.out HTR.out)
      obtain ⟨ml,hml⟩:∃ ml,(ts ++ [t]).length=ml:=⟨_,rfl⟩
      have XA:=aA hml
      rw [hml] at Fq ⊢
      clear NR hg5 FO hml yG qD qC HV5 LM
      go_wp2_with fail
      go_roundg (nt - (ts.length + 1))
      case measure=>omega
      case rel=>exact ⟨ts ++ [t],ow,cw,_,_,by simp,by rw [aY];go_num,by simp;omega,Fq.out,by rw [aY];exact XN.out⟩
     ·have t5:(4294967295:Int) < (n4:Int):=by omega
      have Zm:=hB4 (by omega)
      obtain ⟨_,_,d2,_,e2⟩:=Uy.base.rd.facts
      obtain ⟨X4,Kb⟩:∃ V,x4.setCell ⟨p,2,none⟩ (.bool true)=V:=⟨_,rfl⟩
      have hgx:x4.grownBy X4 (some p):=by rw [←Kb];exact Pk.fO _ _ _ _
      have hpx:Pk.ZR o c l p b4 true X4:=by rw [←Kb];exact Uy.base.rd.nU true
      have Vz:dR 87 w8.heap.size #[.int .i64 y1,.int .i64 y2,.int .i64 y3,.int .u32 0] X4:=fI Qe hgx Mg.out
      have jx5:=Uy.step HP.out hgx hpx hl4
      have Ox:=aA Kb
      clear Qe Uy hgx hpx Kb
      obtain ⟨Y4,vJ⟩:∃ V,X4.setCell ⟨w8.heap.size,3,none⟩ (.int .u32 ((n4:Int) % 4294967296))=V:=⟨_,rfl⟩
      have e3:X4.cell? ⟨w8.heap.size,3,none⟩=some (.int .u32 0):=by rw [aF _ _ _ _ _ _ Vz];rfl
      have g3:X4.frozen? ⟨w8.heap.size,3,none⟩=false:=dU Vz
      have Vy:dR 87 w8.heap.size #[.int .i64 y1,.int .i64 y2,.int .i64 y3,.int .u32 ((n4:Int) % 4294967296)] Y4:=by
       have:=aK _ _ 3 _ _ (.int .u32 ((n4:Int) % 4294967296)) Vz
       rw [vJ] at this
       exact this
      have Jo:=jx5.put HP.out jJ.out (j:=3) (u:=.int .u32 ((n4:Int) % 4294967296)) Vz (by decide) (by decide) Fe.out Mh.out Ml.out
      rw [vJ] at Jo
      obtain ⟨t,ht⟩:∃ t:iH,(⟨y1,y2,y3,((n4:Int) % 4294967296)⟩:iH)=t:=⟨_,rfl⟩
      have LH:mX t:=by rw [←ht];exact ⟨kJ (by omega) Oy.out,kJ (by omega) WV.out,kJ (by omega) Ew.out,by show (0:Int)≤(n4:Int) % 4294967296;omega,by show (n4:Int) % 4294967296 < 4294967296;omega⟩
      have htr:fQ lo tH l b=opt true (t,b4):=by
       have:=yT IJ (gG HRR1.out (gG HRR2.out (gG HRR3.out (show fQ Jl (pU 4294967295) l b33=opt true (((n4:Int) % 4294967296),b4) by rw [Zm];rfl))))
       rw [←ht]
       exact this
      obtain ⟨V5,FU⟩:∃ V,Y4.alloc (.cells (fV t).toArray 87)=V:=⟨_,rfl⟩
      have b5:Below Y4.heap.size Y4 V5:=by rw [←FU];exact (aI _ _).alloc (aB _) _
      have qC:=aA (show Y4.rangeAt w8.heap.size 0 (fV t) from fun j u hj=>by rw [bB,aF _ _ _ _ _ _ Vy];rw [←ht] at hj;simpa [fV] using hj)
      have yG:=aA (Jo.up b5)
      have qD:=aA (show V5.heap[Y4.heap.size]?=some (.cells (fV t).toArray 87 (0,0)) by rw [←FU];exact aG _ _)
      have Im:Y4.cell? ⟨w.heap.size + 1,18,none⟩=some (.slice ot ts.length ct):=(Jo.base.cell (j:=18) (by simp [mE,BK.out.1])).1
      have HTW:=aA LH
      have HTR:=aA htr
      have OT:Hid (w.heap.size + 2≤V5.heap.size):=aA (by have:=yG.out.lt;omega)
      have hit:=aA (show (Tryz.prog.info? 87).map (·.size)=some (fV t).length by kernel_rfl)
      have LM:=aA vJ
      have HV5:=aA FU
      clear jx5 Vz Jo Vy ht LH htr b5 vJ FU NQ hg4 hA hB4 Zm
      go_wp2_with (first | (rw [Ox.out]) | (rw [LM.out]) | (rw [HV5.out]) | (with_reducible refine eQ (some 68) rfl ?_;refine aA ?_;refine wpList_load_mid rfl 87 (.tmp 8) rfl w8.heap.size 0 rfl (fV t) _ qC.out cZ rfl hit.out ?_) | (with_reducible refine eQ (some 69) rfl ?_;refine aA ?_;refine lU wG (by omega) rfl (.tmp 68) 71 rfl dK (fV t).toArray rfl rfl ?_) | (at_builtin;refine AV wG rfl (.tmp 67) (.tmp 69) 71 rfl dK (w.heap.size + 2) (.slice ot ts.length ct) ts [t] rfl OT.out yG.out.tv (some ⟨Y4.heap.size,0,none⟩) 1 rfl (fun h=>by cases h) (pW qD.out) (fun z hz=>rfl) (fun z _=>uM z) (by have:=HTL.out;simp;omega) ?_))
      clear e3 g3 Im
      intro v4 X5 NR hg5
      refine aA ?_
      obtain ⟨ow,cw,hvw,_,_⟩:=NR.form (fun z hz=>rfl)
      subst hvw
      have FO:=yG.out.appT HP.out jJ.out NR hg5 HTW.out BK.out.1
      have f18:X5.cell? ⟨w.heap.size + 1,18,none⟩=some (.slice ot ts.length ct):=FO.1
      have f19:X5.frozen? ⟨w.heap.size + 1,18,none⟩=false:=FO.2.1
      have Fq:=aA FO.2.2
      have XN:=aA (iV HRT.out HTR.out)
      obtain ⟨ml,hml⟩:∃ ml,(ts ++ [t]).length=ml:=⟨_,rfl⟩
      have XA:=aA hml
      rw [hml] at Fq ⊢
      clear NR hg5 FO hml yG qD qC HV5 LM
      go_wp2_with fail
      go_roundg (nt - (ts.length + 1))
      case measure=>omega
      case rel=>exact ⟨ts ++ [t],ow,cw,_,_,by simp,by rw [aY];go_num,by simp;omega,Fq.out,by rw [aY];exact XN.out⟩
    ·have t3:¬ (ts.length:Int) < (nt:Int):=by omega
     have HRM2:=aA (show fQ lo9 (jA 64 tH) l b9=opt lo (ts,b) from vZ GQ.out (by rw [show ((nt:Int)).toNat=ts.length by omega];exact HRT.out))
     obtain ⟨x,hx⟩:∃ x:fE,(⟨x1,zs,ov,vs,cv,ot,ts,ct⟩:fE)=x:=⟨_,rfl⟩
     have hfo:=HJ.out.vo.form (fun z hz=>by rw [bI];exact (HJ.out.vw z hz).len)
     have hft:=HJ.out.tv.form (fun z hz=>rfl)
     obtain ⟨o1,c1,e1,hcv,hlv⟩:=hfo
     cases e1
     obtain ⟨o2,c2,e2,hct,hlt⟩:=hft
     cases e2
     have hwf:kD x:=by rw [←hx];exact ⟨kJ (by omega) WZ.out,BK.out.1,fun j=>by
      rw [aS]
      cases hz:zs[j]? with
      | none=>exact ⟨by simp,by simp⟩
      | some z=>exact BK.out.2 z (bJ hz),hcv,hct⟩
     have hbx:w8.heap[w.heap.size + 1]?=some (.cells (eF x).toArray 73 (0,0)):=by rw [←hx];exact HJ.out.base.box
     have qC:=aA (show w8.rangeAt (w.heap.size + 1) 0 (eF x) from fun j u hj=>by rw [bB,aF _ _ _ _ _ _ hbx];simpa using hj)
     obtain ⟨Y,hY⟩:∃ V,w8.setRow w.heap.size (eF x).toArray=V:=⟨_,rfl⟩
     have hres:dR 73 w.heap.size #[.int .i64 0,.int .i64 0,.int .i64 0,.int .i64 0,.int .i64 0,.int .i64 0,.int .i64 0,.int .i64 0,.int .i64 0,.int .i64 0,.int .i64 0,.int .i64 0,.int .i64 0,.int .i64 0,.int .i64 0,.int .i64 0,.int .i64 0,.slice none 0 0,.slice none 0 0] w8:=HJ.out.base.res
     have BI:=aA (show dR 73 w.heap.size (eF x).toArray Y by rw [←hY];exact hres.row _)
     have zO:Below w.heap.size w8 Y:=by rw [←hY];exact Below.row ⟨rfl,rfl,rfl,aB _,fun _ _=>rfl⟩ (aB _) _
     have hrw:∀ {t:TypeId},t≠73→Rows t w8 Y:=fun hne g cur hg=>by
      rw [←hY,setRow_other _ _ _ _ (fun e=>by
       subst e
       unfold dR at hres
       rw [hres] at hg
       cases hg
       exact hne rfl)]
      exact hg
     have HE:Hid (ZObj B p a lost o c l w (.returned (.agg (eF x).toArray)) Y):=aA (by
      refine kU.make (iI HJ.out.base.grow zO) ⟨hwf,?_,?_,?_,?_⟩ (uF HJ.out.base.rd HP.out jJ.out zO) HJ.out.base.le ?_
      ·rw [←hx];exact (hlv.rows (hrw (by decide))).base (by have:=Ga.out;omega)
      ·rw [←hx];exact (hlt.rows (hrw (by decide))).base (by have:=Ga.out;omega)
      ·rw [←hx];exact HJ.out.vw
      ·rw [←hx];exact HJ.out.tw
      ·rw [←hx]
       exact gG HR1.out (gG HR2.out (gG Gt.out HRM2.out)))
     have hio:=aA (show (Tryz.prog.info? 73).map (·.size)=some (eF x).length by rw [eZ hwf];kernel_rfl)
     have Jt:=aA (show (Tryz.prog.info? 73).map (·.size)=some (eF x).toArray.size by rw [aL,eZ hwf];kernel_rfl)
     have Rm:=aA (show 19=(eF x).toArray.size by rw [aL,eZ hwf])
     have Rl:Hid ((eF x).toArray.all (·.oneCell')=true):=aA (by rw [List.all_toArray,bL];exact fun u hu=>oQ x u hu)
     have XN:=aA hres
     have HYY:=aA hY
     clear hx hcv hlv hct hlt hwf hbx hres zO hrw hY HJ HRT
     go_wp2_with (first | (rw [HYY.out]) | (with_reducible refine eQ (some 72) rfl ?_;refine aA ?_;refine wpList_load_mid rfl 73 (.tmp 3) rfl (w.heap.size + 1) 0 rfl (eF x) _ qC.out bV rfl hio.out ?_) | (refine dQ rfl 73 (.tmp 2) (.tmp 72) rfl w.heap.size _ _ (eF x).toArray rfl rfl XN.out Jt.out Rm.out Rl.out ?_))
     refine aO (v:=.agg (eF x).toArray) (results_cell_row rfl _ _ w.heap.size _ (eF x).toArray _ _ rfl BI.out bV rfl Jt.out) rfl ?_
     exact HE.out
end Fx
end Go.Proofs.YtbbhmhihpdmoiaaGreat
