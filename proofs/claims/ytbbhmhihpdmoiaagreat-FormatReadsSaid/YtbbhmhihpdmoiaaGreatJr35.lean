import Derived.Test.YtbbhmhihpdmoiaaGreatJr34
set_option linter.unusedVariables false
set_option linter.unusedSimpArgs false
set_option maxRecDepth 100000
set_option maxHeartbeats 32000000
namespace Go.Proofs.YtbbhmhihpdmoiaaGreat
namespace Fx
open Go Go.RowKit
open Pk (PR iA)
theorem kX {t:TypeId} {b:Nat}:∀ (vs A M B:List Value) (w:World),M.length=vs.length→w.heap[b]?=some (.cells (A ++ M ++ B).toArray t (0,0))→(w.setCells b A.length vs).heap[b]?=some (.cells (A ++ vs ++ B).toArray t (0,0))
 | [],A,M,B,w,hl,h=>by
  have : M=[]:=List.length_eq_zero_iff.1 hl
  subst this
  exact h
 | v :: vs,A,M,B,w,hl,h=>by
  cases M with
  | nil=>simp at hl
  | cons m M =>
   rw [World.setCells]
   have h1:(w.setCell ⟨b,A.length,none⟩ v).heap[b]?=some (.cells ((A ++ [v]) ++ M ++ B).toArray t (0,0)):=by
    rw [aK _ _ A.length _ _ v h]
    simp [List.set_append]
   have:=kX vs (A ++ [v]) M B _ (by simpa using hl) h1
   rw [aY] at this
   simpa using this
theorem kY {b k:Nat} (hk:k≠b):∀ (vs:List Value) (o:Nat) (w:World),(w.setCells b o vs).heap[k]?=w.heap[k]?
 | [],_,_=>rfl
 | v :: vs,o,w=>by rw [World.setCells,kY hk vs (o + 1),aH _ _ _ _ (by exact hk)]
theorem TF.use {α κ:Type} {key:α→κ} {t:TypeId} {n:Nat} {f:α→List Value} {El:α→World→Prop} {o:Option Addr} {c:Nat} {l:List Nat} {p:Nat} {r:Option (List κ×Nat)} {w:World} {e:Ending} {w':World} (h:TF key t n f El o c l p r w e w') :
  w.grownBy w' (some p)∧∃ v zs b lo,e=.returned v∧iD t n f w' w.heap.size v zs∧(∀ z∈zs,El z w')∧PR o c l p b lo w'∧b≤l.length∧r=opt lo (zs.map key,b):=by
 refine ⟨h.grow,?_⟩
 cases hr:r with
 | none =>
  obtain ⟨he,b,hb,hp⟩:=h.no hr
  exact ⟨_,[],b,true,he,iD.nil _ _ _ _ _,fun z hz=>by simp at hz,hp,hb,rfl⟩
 | some q =>
  obtain ⟨ks,b⟩:=q
  obtain ⟨⟨v,zs,he,ho,hz,hk⟩,hb,hp⟩:=h.yes ks b hr
  exact ⟨v,zs,b,false,he,ho,hz,hp,hb,by rw [hk];rfl⟩
def mE (id:Int) (m:List Int) (v1 v2:Value):List Value:=.int .i64 id :: (m.map encI ++ [v1,v2])
structure WQ (o:Option Addr) (c:Nat) (l:List Nat) (p b:Nat) (lo:Bool) (id:Int) (m:List Int) (v1 v2:Value) (w W:World):Prop where
 res:W.heap[w.heap.size]?=some (.cells #[.int .i64 0,.int .i64 0,.int .i64 0,.int .i64 0,.int .i64 0,.int .i64 0,.int .i64 0,.int .i64 0,.int .i64 0,.int .i64 0,.int .i64 0,.int .i64 0,.int .i64 0,.int .i64 0,.int .i64 0,.int .i64 0,.int .i64 0,.slice none 0 0,.slice none 0 0] 73 (0,0))
 box:W.heap[w.heap.size + 1]?=some (.cells (mE id m v1 v2).toArray 73 (0,0))
 rd:PR o c l p b lo W
 le:b≤l.length
 grow:w.grownBy W (some p)
theorem WQ.step {o:Option Addr} {c:Nat} {l:List Nat} {p b b2:Nat} {lo lo2:Bool} {id:Int} {m:List Int} {v1 v2:Value} {w W X:World} (hp:p < w.heap.size) (i:WQ o c l p b lo id m v1 v2 w W) (hg:W.grownBy X (some p)) (hr:PR o c l p b2 lo2 X) (hl:b2≤l.length):WQ o c l p b2 lo2 id m v1 v2 w X:=by
 have keep:∀ {g:Nat} {ob:Obj},g≠p→W.heap[g]?=some ob→X.heap[g]?=some ob:=fun hne h=>by
  rw [hg.block _ (aC.1 h).1 (fun e=>hne (bF e))]
  exact h
 exact ⟨keep (by omega) i.res,keep (by omega) i.box,hr,hl,i.grow.trans hg⟩
theorem WQ.put {o:Option Addr} {c:Nat} {l:List Nat} {p b:Nat} {lo:Bool} {id id2:Int} {m m2:List Int} {v1 v2 u1 u2:Value} {w W X:World} (hp:p < w.heap.size) (iQ:∀ b off,o=some ⟨b,off,none⟩→0 < l.length→b < w.heap.size) (i:WQ o c l p b lo id m v1 v2 w W) (hb:Below w.heap.size W X)
  (hres:X.heap[w.heap.size]?=W.heap[w.heap.size]?) (zN:X.heap[w.heap.size + 1]?=some (.cells (mE id2 m2 u1 u2).toArray 73 (0,0))):WQ o c l p b lo id2 m2 u1 u2 w X :=
 ⟨hres.trans i.res,zN,nP i.rd hp iQ hb,i.le,iI i.grow hb⟩
theorem WQ.cell {o:Option Addr} {c:Nat} {l:List Nat} {p b:Nat} {lo:Bool} {id:Int} {m:List Int} {v1 v2:Value} {w W:World} (i:WQ o c l p b lo id m v1 v2 w W) {j:Nat} {u:Value} (h:(mE id m v1 v2)[j]?=some u):W.cell? ⟨w.heap.size + 1,j,none⟩=some u∧W.frozen? ⟨w.heap.size + 1,j,none⟩=false :=
 ⟨by rw [aF _ _ _ _ _ _ i.box];simpa using h,dU i.box⟩
theorem WQ.set {o:Option Addr} {c:Nat} {l:List Nat} {p b:Nat} {lo:Bool} {id id2:Int} {m m2:List Int} {v1 v2 u1 u2:Value} {w W:World} {j:Nat} {u:Value} (hp:p < w.heap.size) (iQ:∀ b off,o=some ⟨b,off,none⟩→0 < l.length→b < w.heap.size) (i:WQ o c l p b lo id m v1 v2 w W)
  (h:(mE id m v1 v2).toArray.setIfInBounds j u=(mE id2 m2 u1 u2).toArray):WQ o c l p b lo id2 m2 u1 u2 w (W.setCell ⟨w.heap.size + 1,j,none⟩ u):=by
 have hb:Below w.heap.size W (W.setCell ⟨w.heap.size + 1,j,none⟩ u):=Below.setCell (p:=⟨w.heap.size + 1,j,none⟩) ⟨rfl,rfl,rfl,aB _,fun _ _=>rfl⟩ (by show _≤w.heap.size + 1;omega) _
 refine i.put hp iQ hb (aH _ _ _ _ (by show w.heap.size≠w.heap.size + 1;omega)) ?_
 rw [aK _ _ j _ _ u i.box,h]
def Tv (B p a:Nat) (lost:Bool) (o:Option Addr) (c:Nat) (l:List Nat) (w:World):Ending→World→Prop:=lF nJ jC (iM B) (fun x=>.agg (eF x).toArray) o c l p a lost w
theorem UG (B:Nat) (o:Option Addr) (c:Nat) (l:List Nat) (p a:Nat) (lost:Bool) (w:World) (hB:B≤w.heap.size) (k:iA l a) (h:PR o c l p a lost w) (iQ:∀ b off,o=some ⟨b,off,none⟩→0 < l.length→b < w.heap.size) :
  Calls Tryz.prog 43 #[.pointer (some ⟨p,0,none⟩)] w (Tv B p a lost o c l w):=by
 obtain ⟨V0,lI⟩:∃ V,(w.alloc (.cells #[.int .i64 0,.int .i64 0,.int .i64 0,.int .i64 0,.int .i64 0,.int .i64 0,.int .i64 0,.int .i64 0,.int .i64 0,.int .i64 0,.int .i64 0,.int .i64 0,.int .i64 0,.int .i64 0,.int .i64 0,.int .i64 0,.int .i64 0,.slice none 0 0,.slice none 0 0] 73)).alloc (.cells #[.int .i64 0,.int .i64 0,.int .i64 0,.int .i64 0,.int .i64 0,.int .i64 0,.int .i64 0,.int .i64 0,.int .i64 0,.int .i64 0,.int .i64 0,.int .i64 0,.int .i64 0,.int .i64 0,.int .i64 0,.int .i64 0,.int .i64 0,.slice none 0 0,.slice none 0 0] 73)=V:=⟨_,rfl⟩
 have hb0:Below w.heap.size w V0:=by rw [←lI];exact ((aI _ _).alloc (aB _) _).alloc (by simp) _
 have h0:WQ o c l p a lost 0 eX (.slice none 0 0) (.slice none 0 0) w V0:=by
  refine ⟨?_,?_,h.below hb0,k.at',Pk.below_grown hb0 (some p)⟩
  ·rw [←lI];exact dW (aG _ _)
  ·rw [←lI]
   have:=aG (w.alloc (.cells #[.int .i64 0,.int .i64 0,.int .i64 0,.int .i64 0,.int .i64 0,.int .i64 0,.int .i64 0,.int .i64 0,.int .i64 0,.int .i64 0,.int .i64 0,.int .i64 0,.int .i64 0,.int .i64 0,.int .i64 0,.int .i64 0,.int .i64 0,.slice none 0 0,.slice none 0 0] 73)) (.cells #[.int .i64 0,.int .i64 0,.int .i64 0,.int .i64 0,.int .i64 0,.int .i64 0,.int .i64 0,.int .i64 0,.int .i64 0,.int .i64 0,.int .i64 0,.int .i64 0,.int .i64 0,.int .i64 0,.int .i64 0,.int .i64 0,.int .i64 0,.slice none 0 0,.slice none 0 0] 73)
   rw [aR] at this
   exact this
 have H0:=aA h0
 have HK:=aA k
 have vS:=aA h.lt
 have jJ:=aA iQ
 have Ga:=aA hB
 have qJ:=aA lI
 have CU:=aA (nH 65535 (by omega) o c l p a lost V0 k h0.rd)
 clear h hb0 k lI iQ h0 hB
 go_enter Tryz.func43,Tryz.ntmps43
 go_wp2_with (rw [qJ.out])
 refine CU.out.mono ?_
 rintro e w1 h1
 obtain ⟨hg1,x1,a1,lo1,rfl,hn1,hp1,hl1,hr1⟩:=h1.use
 have ht1:=H0.out.step vS.out hg1 hp1 hl1
 obtain ⟨q0,f0⟩:=ht1.cell (j:=0) rfl
 have ht2:=ht1.set (j:=0) (u:=.int .i64 x1) (id2:=x1) (m2:=eX) (u1:=.slice none 0 0) (u2:=.slice none 0 0) vS.out jJ.out rfl
 obtain ⟨Y1,wZ⟩:∃ V,w1.setCell ⟨w.heap.size + 1,0,none⟩ (.int .i64 x1)=V:=⟨_,rfl⟩
 rw [wZ] at ht2
 have H2:=aA ht2
 have WZ:=aA hn1
 have HR1:=aA hr1
 have Ev:=aA wZ
 have mP:∀ b off,o=some ⟨b,off,none⟩→0 < l.length→b < Y1.heap.size:=fun b off e hm=>aM (jJ.out b off e hm) ht2.grow.size
 have HM:=aA (CZ o c l p a1 lo1 Y1 (iO HK.out hl1) ht2.rd mP)
 clear h1 hg1 hn1 hp1 hl1 hr1 ht1 ht2 wZ mP CU H0 qJ
 go_wp2_with (rw [Ev.out])
 clear Ev q0 f0
 refine HM.out.mono ?_
 rintro e w2 h2
 obtain ⟨hg2,zs,a2,lo2,rfl,hn2,hp2,hl2,hr2⟩:=lF.use h2
 have ht3:=H2.out.step vS.out hg2 hp2 hl2
 have nL:w2.there (w.heap.size + 1) 1 (mC zs).size:=fun j hj=>by
  rw [fT,hn2.1] at hj
  refine ⟨?_,dU ht3.box⟩
  rw [aF _ _ _ _ _ _ ht3.box]
  simp [mE,eX]
  omega
 obtain ⟨Y2,hY2⟩:∃ V,w2.setCells (w.heap.size + 1) 1 (mC zs).toList=V:=⟨_,rfl⟩
 have FN:WQ o c l p a2 lo2 x1 zs (.slice none 0 0) (.slice none 0 0) w Y2:=by
  have zO:Below w.heap.size w2 Y2:=by rw [←hY2];exact mJ (by omega) _ _ ⟨rfl,rfl,rfl,aB _,fun _ _=>rfl⟩
  refine ht3.put vS.out jJ.out zO ?_ ?_
  ·rw [←hY2]
   exact kY (by omega) _ _ _
  ·have:=kX (mC zs).toList [.int .i64 x1] (eX.map encI) [.slice none 0 0,.slice none 0 0] w2 (by simp [mC,eX,hn2.1]) (by exact ht3.box)
   rw [←hY2]
   rw [show ([Value.int .i64 x1]:List Value).length=1 from rfl] at this
   rw [this]
   simp [mE,mC]
 have hi2:=aA (show (Tryz.prog.info? 25).map (·.size)=some (mC zs).size by rw [fT,hn2.1];kernel_rfl)
 have Gs:=aA nL
 have H4:=aA FN
 have BK:=aA hn2
 have HR2:=aA hr2
 have BG:=aA hY2
 have mP:∀ b off,o=some ⟨b,off,none⟩→0 < l.length→b < Y2.heap.size:=fun b off e hm=>aM (jJ.out b off e hm) FN.grow.size
 have HMV:=aA (Ir 0 o c l p a2 lo2 Y2 (dF _) (iO HK.out hl2) FN.rd mP)
 clear h2 hg2 hn2 hp2 hl2 hr2 ht3 FN nL hY2 mP HM H2
 go_wp2_with (first | (rw [BG.out]) | (refine wpList_store_mid rfl 25 (.tmp 9) (.tmp 8) rfl (w.heap.size + 1) 1 (mC zs) rfl rfl Gs.out hi2.out (iY _) ?_))
 clear BG Gs
 refine HMV.out.mono ?_
 rintro e w3 h3
 obtain ⟨hg3,v3,vs,a3,lo3,rfl,ho3,he3,hp3,hl3,hr3⟩:=h3.use
 obtain ⟨o3,c3,rfl,Oa,Cf⟩:=ho3.form (fun z hz=>by rw [bI];exact (he3 z hz).len)
 have ht5:=H4.out.step vS.out hg3 hp3 hl3
 obtain ⟨q17,f17⟩:=ht5.cell (j:=17) (u:=.slice none 0 0) (by simp [mE,BK.out.1])
 have Yg:=ht5.set (j:=17) (u:=.slice o3 vs.length c3) (id2:=x1) (m2:=zs) (u1:=.slice o3 vs.length c3) (u2:=.slice none 0 0) vS.out jJ.out (by simp [mE,List.set_append,BK.out.1])
 obtain ⟨Y3,FT⟩:∃ V,w3.setCell ⟨w.heap.size + 1,17,none⟩ (.slice o3 vs.length c3)=V:=⟨_,rfl⟩
 rw [FT] at Yg
 have HLI3:=aA (show kT 85 3 (List.map encI) Y3 w.heap.size o3 vs by rw [←FT];exact (Cf.rows (Rows.nK ht5.box (by decide))).base (H4.out.grow.size))
 have H6:=aA Yg
 have HE3:=aA he3
 have qW:=aA Oa
 have HR3:=aA hr3
 have Lx:=aA FT
 have mP:∀ b off,o=some ⟨b,off,none⟩→0 < l.length→b < Y3.heap.size:=fun b off e hm=>aM (jJ.out b off e hm) Yg.grow.size
 have HMT:=aA (Iu 0 o c l p a3 lo3 Y3 (dF _) (iO HK.out hl3) Yg.rd mP)
 clear h3 hg3 ho3 he3 hp3 hl3 hr3 Oa Cf ht5 Yg FT mP HMV H4
 go_wp2_with (rw [Lx.out])
 clear Lx q17 f17
 refine HMT.out.mono ?_
 rintro e w4 h4
 obtain ⟨hg4,v4,ts,a4,CK,rfl,zK,Uz,NQ,hl4,hr4⟩:=h4.use
 obtain ⟨o4,c4,rfl,hcap4,Ce⟩:=zK.form (fun z _=>rfl)
 have ht7:=H6.out.step vS.out hg4 NQ hl4
 obtain ⟨q18,f18⟩:=ht7.cell (j:=18) (u:=.slice none 0 0) (by simp [mE,BK.out.1])
 have Rh:=ht7.set (j:=18) (u:=.slice o4 ts.length c4) (id2:=x1) (m2:=zs) (u1:=.slice o3 vs.length c3) (u2:=.slice o4 ts.length c4) vS.out jJ.out (by simp [mE,List.set_append,BK.out.1])
 obtain ⟨Y4,vJ⟩:∃ V,w4.setCell ⟨w.heap.size + 1,18,none⟩ (.slice o4 ts.length c4)=V:=⟨_,rfl⟩
 rw [vJ] at Rh
 obtain ⟨x,hx⟩:∃ x:fE,(⟨x1,zs,o3,vs,c3,o4,ts,c4⟩:fE)=x:=⟨_,rfl⟩
 have hxl:mE x1 zs (.slice o3 vs.length c3) (.slice o4 ts.length c4)=eF x:=by rw [←hx];rfl
 have Cj:=Rh.box
 rw [hxl] at Cj
 obtain ⟨Y5,hY5⟩:∃ V,Y4.setRow w.heap.size (eF x).toArray=V:=⟨_,rfl⟩
 have hfx:iM B x Y5:=by
  have r1:∀ {t:TypeId},t≠73→t≠144→Rows t Y3 w4:=fun h1 h2=>Rows.jP hg4 (fun k hk=>by cases hk;exact ⟨_,H6.out.rd.row⟩) h2
  have r2:∀ {t:TypeId},t≠73→Rows t w4 Y4:=fun h1=>by rw [←vJ];exact Rows.nK ht7.box h1
  have r3:∀ {t:TypeId},t≠73→Rows t Y4 Y5:=fun h1 g cur hg=>by
   rw [←hY5,setRow_other _ _ _ _ (fun e=>by
    subst e
    rw [Rh.res] at hg
    cases hg
    exact h1 rfl)]
   exact hg
  have hcp3:=qW.out
  rw [←hx]
  refine ⟨⟨kJ (by omega) WZ.out,BK.out.1,fun j=>?_,qW.out,hcap4⟩,?_,?_,HE3.out,Uz⟩
  ·show Num (zs.getD j 0)
   rw [aS]
   cases hz:zs[j]? with
   | none=>exact ⟨by simp,by simp⟩
   | some z=>exact BK.out.2 z (bJ hz)
  ·exact ((HLI3.out.rows (((r1 (by decide) (by decide)).trans (r2 (by decide))).trans (r3 (by decide)))).base Ga.out)
  ·exact ((Ce.rows ((r2 (by decide)).trans (r3 (by decide)))).base (bH Ga.out H6.out.grow.size))
 have HE:Hid (Tv B p a lost o c l w (.returned (.agg (eF x).toArray)) Y5):=aA (by
  have zO:Below w.heap.size Y4 Y5:=by rw [←hY5];exact Below.row ⟨rfl,rfl,rfl,aB _,fun _ _=>rfl⟩ (aB _) _
  have hr:=gG HR1.out (gG HR2.out (gG HR3.out hr4))
  refine lF.make (x:=x) (iI Rh.grow zO) hfx (nP Rh.rd vS.out jJ.out zO) hl4 ?_
  rw [←hx]
  unfold jC nJ
  simpa using hr)
 have HR4:=aA Rh.res
 have HBX:=aA (show Y4.rangeAt (w.heap.size + 1) 0 (eF x) from fun j u hj=>by rw [aF _ _ _ _ _ _ Cj,bB];simpa using hj)
 have hwf:=hfx.wf
 have hi3:=aA (vX hwf)
 have hi4:=aA (show (Tryz.prog.info? 73).map (·.size)=some (eF x).toArray.size by rw [aL];exact vX hwf)
 have hs4:=aA (show 19=(eF x).toArray.size by rw [aL];exact (eZ hwf).symm)
 have LM:=aA vJ
 have HY5:=aA hY5
 clear h4 hg4 zK Uz NQ hl4 hr4 hcap4 Ce ht7 Rh vJ hY5 hfx hx hxl Cj hwf HMT H6 HLI3 HE3 qW HR1 HR2 HR3 WZ BK
 go_wp2_with (first | (rw [LM.out]) | (with_reducible refine eQ (some 16) rfl ?_;refine aA ?_;refine wpList_load_mid rfl 73 (.tmp 3) rfl (w.heap.size + 1) 0 rfl (eF x) _ HBX.out bV rfl hi3.out ?_) | (refine dQ rfl 73 (.tmp 2) (.tmp 16) rfl w.heap.size _ _ (eF x).toArray rfl rfl HR4.out hi4.out hs4.out (wC _) ?_))
 refine aO (v:=.agg (eF x).toArray) (results_cell_row rfl _ _ w.heap.size _ (eF x).toArray _ _ rfl (setRow_heap _ _ _ _ _ _ HR4.out) bV rfl hi4.out) rfl ?_
 rw [HY5.out]
 exact HE.out
def mV (f:Int×Int×List Int) (v:Value):List Value:=.int .i64 f.1 :: .int .i64 f.2.1 :: (f.2.2.map encI ++ [v])
theorem FV (f:Int×Int×List Int) {v:Value} (h:v.oneCell'=true):(mV f v).toArray.all (·.oneCell')=true:=by
 rw [List.all_toArray,bL]
 intro u hu
 simp only [mV,List.mem_cons,bU,List.mem_map,List.not_mem_nil,or_false] at hu
 rcases hu with rfl | rfl | ⟨z,_,rfl⟩ | rfl
 ·rfl
 ·rfl
 ·rfl
 ·exact h
structure XF (o:Option Addr) (c:Nat) (l:List Nat) (p b:Nat) (lo:Bool) (f:Int×Int×List Int) (w W:World):Prop where
 res:W.heap[w.heap.size]?=some (.cells #[.int .i64 0,.int .i64 0,.int .i64 0,.int .i64 0,.int .i64 0,.int .i64 0,.int .i64 0,.int .i64 0,.int .i64 0,.int .i64 0,.int .i64 0,.int .i64 0,.int .i64 0,.int .i64 0,.int .i64 0,.int .i64 0,.int .i64 0,.int .i64 0,.slice none 0 0] 28 (0,0))
 box:W.heap[w.heap.size + 1]?=some (.cells (mV f (.slice none 0 0)).toArray 28 (0,0))
 rd:PR o c l p b lo W
 le:b≤l.length
 grow:w.grownBy W (some p)
section
variable {o:Option Addr} {c:Nat} {l:List Nat} {p b b2:Nat} {lo lo2:Bool} {f f2:Int×Int×List Int} {w W X:World}
theorem XF.step (hp:p < w.heap.size) (i:XF o c l p b lo f w W) (hg:W.grownBy X (some p)) (hr:PR o c l p b2 lo2 X) (hl:b2≤l.length):XF o c l p b2 lo2 f w X:=by
 have keep:∀ {g:Nat} {ob:Obj},g≠p→W.heap[g]?=some ob→X.heap[g]?=some ob:=fun hne h=>by
  rw [hg.block _ (aC.1 h).1 (fun e=>hne (bF e))]
  exact h
 exact ⟨keep (by omega) i.res,keep (by omega) i.box,hr,hl,i.grow.trans hg⟩
theorem XF.put (hp:p < w.heap.size) (iQ:∀ b off,o=some ⟨b,off,none⟩→0 < l.length→b < w.heap.size) (i:XF o c l p b lo f w W) (hb:Below w.heap.size W X)
  (hres:X.heap[w.heap.size]?=W.heap[w.heap.size]?) (zN:X.heap[w.heap.size + 1]?=some (.cells (mV f2 (.slice none 0 0)).toArray 28 (0,0))):XF o c l p b lo f2 w X :=
 ⟨hres.trans i.res,zN,nP i.rd hp iQ hb,i.le,iI i.grow hb⟩
theorem XF.cell (i:XF o c l p b lo f w W) {j:Nat} {u:Value} (h:(mV f (.slice none 0 0))[j]?=some u):W.cell? ⟨w.heap.size + 1,j,none⟩=some u∧W.frozen? ⟨w.heap.size + 1,j,none⟩=false :=
 ⟨by rw [aF _ _ _ _ _ _ i.box];simpa using h,dU i.box⟩
theorem XF.set {j:Nat} {u:Value} (hp:p < w.heap.size) (iQ:∀ b off,o=some ⟨b,off,none⟩→0 < l.length→b < w.heap.size) (i:XF o c l p b lo f w W)
  (h:(mV f (.slice none 0 0)).toArray.setIfInBounds j u=(mV f2 (.slice none 0 0)).toArray):XF o c l p b lo f2 w (W.setCell ⟨w.heap.size + 1,j,none⟩ u):=by
 have hb:Below w.heap.size W (W.setCell ⟨w.heap.size + 1,j,none⟩ u):=Below.setCell (p:=⟨w.heap.size + 1,j,none⟩) ⟨rfl,rfl,rfl,aB _,fun _ _=>rfl⟩ (by show _≤w.heap.size + 1;omega) _
 refine i.put hp iQ hb (aH _ _ _ _ (by show w.heap.size≠w.heap.size + 1;omega)) ?_
 rw [aK _ _ j _ _ u i.box,h]
end
def Dm (f:Int×Int×List Int):Prop:=(0≤f.1∧f.1≤64)∧(0≤f.2.1∧f.2.1≤64)∧Dl 16 f.2.2
def PFr (p a:Nat) (lost:Bool) (o:Option Addr) (c:Nat) (l:List Nat) (w:World):Ending→World→Prop:=lF jV (fun f:Int×Int×List Int=>f) (fun f _=>Dm f) (fun f=>.agg (mV f (.slice none 0 0)).toArray) o c l p a lost w
theorem DC (o:Option Addr) (c:Nat) (l:List Nat) (p a:Nat) (lost:Bool) (w:World) (k:iA l a) (h:PR o c l p a lost w) (iQ:∀ b off,o=some ⟨b,off,none⟩→0 < l.length→b < w.heap.size) :
  Calls Tryz.prog 41 #[.pointer (some ⟨p,0,none⟩)] w (PFr p a lost o c l w):=by
 obtain ⟨V0,lI⟩:∃ V,(w.alloc (.cells #[.int .i64 0,.int .i64 0,.int .i64 0,.int .i64 0,.int .i64 0,.int .i64 0,.int .i64 0,.int .i64 0,.int .i64 0,.int .i64 0,.int .i64 0,.int .i64 0,.int .i64 0,.int .i64 0,.int .i64 0,.int .i64 0,.int .i64 0,.int .i64 0,.slice none 0 0] 28)).alloc (.cells #[.int .i64 0,.int .i64 0,.int .i64 0,.int .i64 0,.int .i64 0,.int .i64 0,.int .i64 0,.int .i64 0,.int .i64 0,.int .i64 0,.int .i64 0,.int .i64 0,.int .i64 0,.int .i64 0,.int .i64 0,.int .i64 0,.int .i64 0,.int .i64 0,.slice none 0 0] 28)=V:=⟨_,rfl⟩
 have hb0:Below w.heap.size w V0:=by rw [←lI];exact ((aI _ _).alloc (aB _) _).alloc (by simp) _
 have h0:XF o c l p a lost (0,0,eX) w V0:=by
  refine ⟨?_,?_,h.below hb0,k.at',Pk.below_grown hb0 (some p)⟩
  ·rw [←lI];exact dW (aG _ _)
  ·rw [←lI]
   have:=aG (w.alloc (.cells #[.int .i64 0,.int .i64 0,.int .i64 0,.int .i64 0,.int .i64 0,.int .i64 0,.int .i64 0,.int .i64 0,.int .i64 0,.int .i64 0,.int .i64 0,.int .i64 0,.int .i64 0,.int .i64 0,.int .i64 0,.int .i64 0,.int .i64 0,.int .i64 0,.slice none 0 0] 28)) (.cells #[.int .i64 0,.int .i64 0,.int .i64 0,.int .i64 0,.int .i64 0,.int .i64 0,.int .i64 0,.int .i64 0,.int .i64 0,.int .i64 0,.int .i64 0,.int .i64 0,.int .i64 0,.int .i64 0,.int .i64 0,.int .i64 0,.int .i64 0,.int .i64 0,.slice none 0 0] 28)
   rw [aR] at this
   exact this
 have H0:=aA h0
 have HK:=aA k
 have vS:=aA h.lt
 have jJ:=aA iQ
 have qJ:=aA lI
 have CU:=aA (nH 64 (by omega) o c l p a lost V0 k h0.rd)
 clear h hb0 k lI iQ h0
 go_enter Tryz.func41,Tryz.ntmps41
 go_wp2_with (rw [qJ.out])
 refine CU.out.mono ?_
 rintro e w1 h1
 obtain ⟨hg1,x1,a1,lo1,rfl,hn1,hp1,hl1,hr1⟩:=h1.use
 have ht1:=H0.out.step vS.out hg1 hp1 hl1
 obtain ⟨q0,f0⟩:=ht1.cell (j:=0) rfl
 have ht2:=ht1.set (j:=0) (u:=.int .i64 x1) (f2:=(x1,0,eX)) vS.out jJ.out rfl
 obtain ⟨Y1,wZ⟩:∃ V,w1.setCell ⟨w.heap.size + 1,0,none⟩ (.int .i64 x1)=V:=⟨_,rfl⟩
 rw [wZ] at ht2
 have H2:=aA ht2
 have WZ:=aA hn1
 have HR1:=aA hr1
 have Ev:=aA wZ
 have HS2:=aA (nH 64 (by omega) o c l p a1 lo1 Y1 (iO HK.out hl1) ht2.rd)
 clear h1 hg1 hn1 hp1 hl1 hr1 ht1 ht2 wZ CU H0 qJ
 go_wp2_with (rw [Ev.out])
 clear Ev q0 f0
 refine HS2.out.mono ?_
 rintro e w2 h2
 obtain ⟨hg2,x2,a2,lo2,rfl,hn2,hp2,hl2,hr2⟩:=h2.use
 have ht1:=H2.out.step vS.out hg2 hp2 hl2
 obtain ⟨q0,f0⟩:=ht1.cell (j:=1) rfl
 have ht2:=ht1.set (j:=1) (u:=.int .i64 x2) (f2:=(x1,x2,eX)) vS.out jJ.out rfl
 obtain ⟨Y2,hY2⟩:∃ V,w2.setCell ⟨w.heap.size + 1,1,none⟩ (.int .i64 x2)=V:=⟨_,rfl⟩
 rw [hY2] at ht2
 have H3:=aA ht2
 have BK:=aA hn2
 have HR2:=aA hr2
 have BG:=aA hY2
 have mP:∀ b off,o=some ⟨b,off,none⟩→0 < l.length→b < Y2.heap.size:=fun b off e hm=>aM (jJ.out b off e hm) ht2.grow.size
 have HM:=aA (CZ o c l p a2 lo2 Y2 (iO HK.out hl2) ht2.rd mP)
 clear h2 hg2 hn2 hp2 hl2 hr2 ht1 ht2 hY2 mP HS2 H2
 go_wp2_with (rw [BG.out])
 clear BG q0 f0
 refine HM.out.mono ?_
 rintro e w3 h3
 obtain ⟨hg3,zs,a3,lo3,rfl,VH,hp3,hl3,hr3⟩:=lF.use h3
 have ht3:=H3.out.step vS.out hg3 hp3 hl3
 have nL:w3.there (w.heap.size + 1) 2 (mC zs).size:=fun j hj=>by
  rw [fT,VH.1] at hj
  refine ⟨?_,dU ht3.box⟩
  rw [aF _ _ _ _ _ _ ht3.box]
  simp [mV,eX]
  omega
 obtain ⟨Y3,FT⟩:∃ V,w3.setCells (w.heap.size + 1) 2 (mC zs).toList=V:=⟨_,rfl⟩
 have FN:XF o c l p a3 lo3 (x1,x2,zs) w Y3:=by
  have zO:Below w.heap.size w3 Y3:=by rw [←FT];exact mJ (by omega) _ _ ⟨rfl,rfl,rfl,aB _,fun _ _=>rfl⟩
  refine ht3.put vS.out jJ.out zO ?_ ?_
  ·rw [←FT]
   exact kY (by omega) _ _ _
  ·have:=kX (mC zs).toList [.int .i64 x1,.int .i64 x2] (eX.map encI) [.slice none 0 0] w3 (by simp [mC,eX,VH.1]) (by exact ht3.box)
   rw [←FT]
   rw [show ([Value.int .i64 x1,Value.int .i64 x2]:List Value).length=2 from rfl] at this
   rw [this]
   simp [mV,mC]
 have hi2:=aA (show (Tryz.prog.info? 25).map (·.size)=some (mC zs).size by rw [fT,VH.1];kernel_rfl)
 obtain ⟨f,hf⟩:∃ f:Int×Int×List Int,(x1,x2,zs)=f:=⟨_,rfl⟩
 rw [hf] at FN
 obtain ⟨Y4,vJ⟩:∃ V,Y3.setRow w.heap.size (mV f (.slice none 0 0)).toArray=V:=⟨_,rfl⟩
 have hfl:f.2.2.length=16:=by rw [←hf];exact VH.1
 have HE:Hid (PFr p a lost o c l w (.returned (.agg (mV f (.slice none 0 0)).toArray)) Y4):=aA (by
  have zO:Below w.heap.size Y3 Y4:=by rw [←vJ];exact Below.row ⟨rfl,rfl,rfl,aB _,fun _ _=>rfl⟩ (aB _) _
  have hr:=gG HR1.out (gG HR2.out hr3)
  refine lF.make (x:=f) (iI FN.grow zO) (by rw [←hf];exact ⟨WZ.out,BK.out,VH⟩) (nP FN.rd vS.out jJ.out zO) hl3 ?_
  rw [←hf]
  exact hr)
 have Gs:=aA nL
 have HR4:=aA FN.res
 have HBX:=aA (show Y3.rangeAt (w.heap.size + 1) 0 (mV f (.slice none 0 0)) from fun j u hj=>by rw [aF _ _ _ _ _ _ FN.box,bB];simpa using hj)
 have hlen:(mV f (.slice none 0 0)).length=19:=by simp [mV,hfl]
 have hi3:=aA (show (Tryz.prog.info? 28).map (·.size)=some (mV f (.slice none 0 0)).length by rw [hlen];kernel_rfl)
 have hi4:=aA (show (Tryz.prog.info? 28).map (·.size)=some (mV f (.slice none 0 0)).toArray.size by rw [aL,hlen];kernel_rfl)
 have hs4:=aA (show 19=(mV f (.slice none 0 0)).toArray.size by rw [aL,hlen])
 have zK:=aA (FV f (v:=.slice none 0 0) rfl)
 have Lx:=aA FT
 have LM:=aA vJ
 clear h3 hg3 VH hp3 hl3 hr3 ht3 FN nL FT vJ hf hfl hlen HM H3 HR1 HR2 WZ BK
 go_wp2_with (first | (rw [Lx.out]) | (with_reducible refine eQ (some 13) rfl ?_;refine aA ?_;refine wpList_load_mid rfl 28 (.tmp 3) rfl (w.heap.size + 1) 0 rfl (mV f (.slice none 0 0)) _ HBX.out bA rfl hi3.out ?_) | (refine wpList_store_mid rfl 25 (.tmp 12) (.tmp 11) rfl (w.heap.size + 1) 2 (mC zs) rfl rfl Gs.out hi2.out (iY _) ?_) | (refine dQ rfl 28 (.tmp 2) (.tmp 13) rfl w.heap.size _ _ (mV f (.slice none 0 0)).toArray rfl rfl HR4.out hi4.out hs4.out zK.out ?_))
 refine aO (v:=.agg (mV f (.slice none 0 0)).toArray) (results_cell_row rfl _ _ w.heap.size _ (mV f (.slice none 0 0)).toArray _ _ rfl (setRow_heap _ _ _ _ _ _ HR4.out) bA rfl hi4.out) rfl ?_
 rw [LM.out]
 exact HE.out
end Fx
end Go.Proofs.YtbbhmhihpdmoiaaGreat
