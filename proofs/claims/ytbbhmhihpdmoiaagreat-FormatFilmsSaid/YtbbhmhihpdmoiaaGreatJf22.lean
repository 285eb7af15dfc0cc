import Derived.Test.YtbbhmhihpdmoiaaGreatJf21
set_option linter.unusedVariables false
set_option linter.unusedSimpArgs false
set_option maxRecDepth 100000
set_option maxHeartbeats 32000000
namespace Go.Proofs.YtbbhmhihpdmoiaaGreat
open Go.Proofs.Tryz
namespace Fx
open Go Go.RowKit
open Pk (fW Bs By)
theorem uS {κ:Type}{P:pO κ}{most:Nat}{l:List Nat}{lost lo1 lo2:Bool}{a a1 a2:Nat}{n:Int}{ks:List κ}(h:eP lost (pU most) l a=opt lo1 (n,a1))(h2:eP lo1 (fE P n.toNat) l a1=opt lo2 (ks,a2)):eP lost (fG most P) l a=opt lo2 (ks,a2):=by
 unfold eP opt fG at *
 cases lost <;> cases lo1 <;> cases lo2 <;> simp_all
structure UT (o:Option Addr)(c:Nat)(l:List Nat)(p b:Nat)(lo:Bool)(id:Int)(m:List Int)(v1 v2:Value)(w W:World):Prop where
 res:W.heap[w.heap.size]?=some (.cells #[.int .i64 0,.int .i64 0,.int .i64 0,.int .i64 0,.int .i64 0,.int .i64 0,.int .i64 0,.int .i64 0,.int .i64 0,.int .i64 0,.int .i64 0,.int .i64 0,.int .i64 0,.int .i64 0,.int .i64 0,.int .i64 0,.int .i64 0,.slice none 0 0,.slice none 0 0] 73 (0,0))
 box:W.heap[w.heap.size+1]?=some (.cells (nK id m v1 v2).toArray 73 (0,0))
 rd:Pk.ZR o c l p b lo W
 le:b≤l.length
 grow:w.grownBy W (some p)
theorem UT.step {o:Option Addr}{c:Nat}{l:List Nat}{p b b2:Nat}{lo lo2:Bool}{id:Int}{m:List Int}{v1 v2:Value}{w W X:World}(hp:p<w.heap.size)(i:UT o c l p b lo id m v1 v2 w W)(hg:W.grownBy X (some p))(hr:Pk.ZR o c l p b2 lo2 X)(hl:b2≤l.length):UT o c l p b2 lo2 id m v1 v2 w X:=by
 have keep:∀ {g:Nat} {ob:Obj},g≠p→W.heap[g]?=some ob→X.heap[g]?=some ob:=fun hne h=>by
  rw[hg.block _ (aC.1 h).1 (fun e=>hne (bK e))];exact h
 exact ⟨keep (by omega) i.res,keep (by omega) i.box,hr,hl,i.grow.trans hg⟩
theorem UT.put {o:Option Addr}{c:Nat}{l:List Nat}{p b:Nat}{lo:Bool}{id id2:Int}{m m2:List Int}{v1 v2 u1 u2:Value}{w W X:World}(hp:p<w.heap.size)(iE:∀b off,o=some ⟨b,off,none⟩→0<l.length→b<w.heap.size)(i:UT o c l p b lo id m v1 v2 w W)(hb:Below w.heap.size W X)
  (hres:X.heap[w.heap.size]?=W.heap[w.heap.size]?) (EM:X.heap[w.heap.size+1]?=some (.cells (nK id2 m2 u1 u2).toArray 73 (0,0))):UT o c l p b lo id2 m2 u1 u2 w X :=
 ⟨hres.trans i.res,EM,uM i.rd hp iE hb,i.le,gW i.grow hb⟩
theorem UT.cell {o:Option Addr}{c:Nat}{l:List Nat}{p b:Nat}{lo:Bool}{id:Int}{m:List Int}{v1 v2:Value}{w W:World}(i:UT o c l p b lo id m v1 v2 w W){j:Nat}{u:Value}(h:(nK id m v1 v2)[j]?=some u):W.cell? ⟨w.heap.size+1,j,none⟩=some u∧W.frozen? ⟨w.heap.size+1,j,none⟩=false :=
 ⟨by rw[aD _ _ _ _ _ _ i.box];simpa using h,dJ i.box⟩
theorem UT.set {o:Option Addr}{c:Nat}{l:List Nat}{p b:Nat}{lo:Bool}{id id2:Int}{m m2:List Int}{v1 v2 u1 u2:Value}{w W:World}{j:Nat}{u:Value}(hp:p<w.heap.size)(iE:∀b off,o=some ⟨b,off,none⟩→0<l.length→b<w.heap.size)(i:UT o c l p b lo id m v1 v2 w W)
  (h:(nK id m v1 v2).toArray.setIfInBounds j u=(nK id2 m2 u1 u2).toArray):UT o c l p b lo id2 m2 u1 u2 w (W.setCell ⟨w.heap.size+1,j,none⟩ u):=by
 have hb:Below w.heap.size W (W.setCell ⟨w.heap.size+1,j,none⟩ u):=Below.setCell (p:=⟨w.heap.size+1,j,none⟩) ⟨rfl,rfl,rfl,aB _,fun _ _=>rfl⟩ (by show _≤w.heap.size+1;omega) _;refine i.put hp iE hb (aK _ _ _ _ (by show w.heap.size≠w.heap.size+1;omega)) ?_;rw[aM _ _ j _ _ u i.box,h]
structure KV (o:Option Addr)(c:Nat)(l:List Nat)(p b:Nat)(lo:Bool)(id:Int)(m:List Int)(ov:Option Addr)(cv:Nat)(vs:List (List Int))(ot:Option Addr)(ct:Nat)(ts:List gB)(w W:World):Prop where
 base:UT o c l p b lo id m (.slice ov vs.length cv) (.slice ot ts.length ct) w W
 vo:fK 85 3 (List.map encI) W (w.heap.size+2) (.slice ov vs.length cv) vs
 tv:fK 87 4 fC W (w.heap.size+2) (.slice ot ts.length ct) ts
 vw:∀z∈vs,jI z
 tw:∀z∈ts,mN z
section
variable {o:Option Addr} {c:Nat} {l:List Nat} {p b:Nat} {lo:Bool} {id:Int} {m:List Int} {ov:Option Addr} {cv:Nat} {vs:List (List Int)} {ot:Option Addr} {ct:Nat} {ts:List gB} {w W X:World}
theorem KV.lt (i:KV o c l p b lo id m ov cv vs ot ct ts w W):w.heap.size+1<W.heap.size:=(aC.1 i.base.box).1
theorem KV.step {b2:Nat}{lo2:Bool}(hp:p<w.heap.size)(i:KV o c l p b lo id m ov cv vs ot ct ts w W)(hg:W.grownBy X (some p))(hr:Pk.ZR o c l p b2 lo2 X)(hl:b2≤l.length):KV o c l p b2 lo2 id m ov cv vs ot ct ts w X :=
 ⟨i.base.step hp hg hr hl,i.vo.grown hg (fun k hk e=>by cases hk;have:=i.vo.blk _ e;omega),i.tv.grown hg (fun k hk e=>by cases hk;have:=i.tv.blk _ e;omega),i.vw,i.tw⟩
theorem KV.up (h:Below W.heap.size W X)(i:KV o c l p b lo id m ov cv vs ot ct ts w W):KV o c l p b lo id m ov cv vs ot ct ts w X :=
 ⟨⟨dL h i.base.res,dL h i.base.box,i.base.rd.below h,i.base.le,i.base.grow.trans (Pk.below_grown h (some p))⟩,i.vo.below h,i.tv.below h,i.vw,i.tw⟩
theorem KV.put {g j:Nat}{cs:Array Value}{t:TypeId}{u:Value}(hp:p<w.heap.size)(iE:∀b off,o=some ⟨b,off,none⟩→0<l.length→b<w.heap.size)(i:KV o c l p b lo id m ov cv vs ot ct ts w W)(hr:dI t g cs W)(h1:t≠73)(h2:t≠106)(hv:(Value.slice ov vs.length cv).ownBlock≠some g)(ht:(Value.slice ot ts.length ct).ownBlock≠some g)(hg:w.heap.size+1<g):KV o c l p b lo id m ov cv vs ot ct ts w (W.setCell ⟨g,j,none⟩ u):=by
 have hb:Below w.heap.size W (W.setCell ⟨g,j,none⟩ u):=Below.setCell (p:=⟨g,j,none⟩) ⟨rfl,rfl,rfl,aB _,fun _ _=>rfl⟩ (by show _≤g;omega) _;exact ⟨i.base.put hp iE hb (aK _ _ _ _ (by show w.heap.size≠g;omega)) (by rw[aK _ _ _ _ (by show w.heap.size+1≠g;omega)];exact i.base.box),i.vo.kU hv,i.tv.kU ht,i.vw,i.tw⟩
theorem KV.appV {v':Value}{x:List Int}{ow:Option Addr}{cw:Nat}(hp:p<w.heap.size)(iE:∀b off,o=some ⟨b,off,none⟩→0<l.length→b<w.heap.size)(i:KV o c l p b lo id m ov cv vs ot ct ts w W)(ho:fK 85 3 (List.map encI) X (w.heap.size+2) (.slice ow (vs++[x]).length cw) (vs++[x]))(hg:W.grownBy X (Value.slice ov vs.length cv).ownBlock)(hx:jI x)(hm:m.length=16) :
  X.cell? ⟨w.heap.size+1,17,none⟩=some (.slice ov vs.length cv)∧X.frozen? ⟨w.heap.size+1,17,none⟩=false∧KV o c l p b lo id m ow cw (vs++[x]) ot ct ts w (X.setCell ⟨w.heap.size+1,17,none⟩ (.slice ow (vs++[x]).length cw)):=by
 have hb:=i.vo.blk;have keep:∀ {g:Nat} {q:Obj},g<w.heap.size+2→W.heap[g]?=some q→X.heap[g]?=some q:=fun hlt h=>by
  rw[hg.block _ (aC.1 h).1 (fun e=>by have:=hb _ e.symm;omega)];exact h
 have jm:Below w.heap.size W X:=(aJ _ _).grown hg (by have:=i.lt;omega) (fun k hk=>by have:=hb k hk;omega);have i2:UT o c l p b lo id m (.slice ov vs.length cv) (.slice ot ts.length ct) w X:=⟨keep (by omega) i.base.res,keep (by omega) i.base.box,uM i.base.rd hp iE jm,i.base.le,gW i.base.grow jm⟩;obtain ⟨q1,q2⟩:=i2.cell (j:=17) (u:=.slice ov vs.length cv) (by simp[nK,hm]);have i3:=i2.set (j:=17) (u:=.slice ow (vs++[x]).length cw) (id2:=id) (m2:=m) (u1:=.slice ow (vs++[x]).length cw) (u2:=.slice ot ts.length ct) hp iE (by simp[nK,List.set_append,hm]);refine ⟨q1,q2,i3,ho.kU (fun e=>by have:=ho.blk _ e;omega),(i.tv.grown hg (fun k hk e=>?_)).kU (fun e=>by have:=i.tv.blk _ e;omega),fun z hz=>?_,i.tw⟩
 ·obtain ⟨c1,h1⟩:=i.vo.row k hk
  obtain ⟨c2,h2⟩:=i.tv.row k e;rw[h1] at h2
  cases h2
 ·rcases bS.1 hz with hz|hz
  ·exact i.vw z hz
  ·simp at hz
   subst hz;exact hx
theorem KV.appT {x:gB}{ow:Option Addr}{cw:Nat}(hp:p<w.heap.size)(iE:∀b off,o=some ⟨b,off,none⟩→0<l.length→b<w.heap.size)(i:KV o c l p b lo id m ov cv vs ot ct ts w W)(ho:fK 87 4 fC X (w.heap.size+2) (.slice ow (ts++[x]).length cw) (ts++[x]))(hg:W.grownBy X (Value.slice ot ts.length ct).ownBlock)(hx:mN x)(hm:m.length=16) :
  X.cell? ⟨w.heap.size+1,18,none⟩=some (.slice ot ts.length ct)∧X.frozen? ⟨w.heap.size+1,18,none⟩=false∧KV o c l p b lo id m ov cv vs ow cw (ts++[x]) w (X.setCell ⟨w.heap.size+1,18,none⟩ (.slice ow (ts++[x]).length cw)):=by
 have hb:=i.tv.blk;have keep:∀ {g:Nat} {q:Obj},g<w.heap.size+2→W.heap[g]?=some q→X.heap[g]?=some q:=fun hlt h=>by
  rw[hg.block _ (aC.1 h).1 (fun e=>by have:=hb _ e.symm;omega)];exact h
 have jm:Below w.heap.size W X:=(aJ _ _).grown hg (by have:=i.lt;omega) (fun k hk=>by have:=hb k hk;omega);have i2:UT o c l p b lo id m (.slice ov vs.length cv) (.slice ot ts.length ct) w X:=⟨keep (by omega) i.base.res,keep (by omega) i.base.box,uM i.base.rd hp iE jm,i.base.le,gW i.base.grow jm⟩;obtain ⟨q1,q2⟩:=i2.cell (j:=18) (u:=.slice ot ts.length ct) (by simp[nK,hm]);have i3:=i2.set (j:=18) (u:=.slice ow (ts++[x]).length cw) (id2:=id) (m2:=m) (u1:=.slice ov vs.length cv) (u2:=.slice ow (ts++[x]).length cw) hp iE (by simp[nK,List.set_append,hm]);refine ⟨q1,q2,i3,(i.vo.grown hg (fun k hk e=>?_)).kU (fun e=>by have:=i.vo.blk _ e;omega),ho.kU (fun e=>by have:=ho.blk _ e;omega),i.vw,fun z hz=>?_⟩
 ·obtain ⟨c1,h1⟩:=i.tv.row k hk
  obtain ⟨c2,h2⟩:=i.vo.row k e;rw[h1] at h2
  cases h2
 ·rcases bS.1 hz with hz|hz
  ·exact i.tw z hz
  ·simp at hz
   subst hz;exact hx
end
def ZObj (B p a:Nat)(lost:Bool)(o:Option Addr)(c:Nat)(l:List Nat)(w:World):Ending→World→Prop:=mB oC eX (gV B) (fun x=>.agg (dP x).toArray) o c l p a lost w
theorem zu_r (o:Option Addr)(c:Nat)(l:List Nat)(p a:Nat)(lost:Bool)(w:World)(k:fW l a)(h:Pk.ZR o c l p a lost w) :
  Calls prog 88 #[.pointer (some ⟨p,0,none⟩)] w fun e w'=>∃ (n b:Nat) (lo:Bool),e=.returned (.int .u64 (n:Int))∧n≤18446744073709551615∧b≤l.length∧Pk.ZR o c l p b lo w'∧w.grownBy w' (some p) ∧
   (n≤4294967295→eP lost (pU 4294967295) l a=opt lo ((n:Int),b))∧(4294967295<n→eP lost (pU 4294967295) l a=none):=by
 refine (Pk.CI o c l p a lost w k h).mono ?_;have hr:eP lost (pU 4294967295) l a=match Pk.rq lost 18446744073709551615 (l.drop a) with
   | none=>none
   | some (n,j)=>if n≤4294967295 then some ((n:Int),a+j) else none:=by
  unfold eP pU Pk.rq
  cases lost
  ·rw[bF (by simp),bF (by simp),Pk.wY _ (by unfold Pk.pP;omega)]
   show Option.map _ (match Pk.rd Pk.pP (l.drop a) with|none=>none|some (v,j)=>if v≤4294967295 then some (v,j) else none)=match Pk.rd Pk.pP (l.drop a) with|none=>none|some (n,j)=>if n≤4294967295 then some ((n:Int),a+j) else none
   cases Pk.rd Pk.pP (l.drop a) with
   | none=>rfl
   | some q =>
    obtain ⟨n,j⟩:=q;dsimp only
    split <;> rfl
  ·rfl
 have hj:∀n j,Pk.rq lost 18446744073709551615 (l.drop a)=some (n,j)→a+j≤l.length∧n≤18446744073709551615:=fun n j hq=>by
  unfold Pk.rq at hq
  split at hq
  ·cases hq
  ·have:=Pk.tI hq
   have Wk:(l.drop a).length=l.length-a:=by simp
   have:=k.at';omega
 generalize Pk.rq lost 18446744073709551615 (l.drop a)=r at hr hj;rintro e w' ⟨rfl,h1,h2⟩
 cases r with
 | none=>exact ⟨0,a,true,rfl,by omega,k.at',h1,h2,fun _=>by rw[hr];rfl,fun h=>by omega⟩
 | some q =>
  obtain ⟨n,j⟩:=q;obtain ⟨h3,h4⟩:=hj n j rfl;refine ⟨n,a+j,false,rfl,h4,h3,h1,h2,fun hn=>?_,fun hn=>?_⟩
  ·rw[hr]
   dsimp only;rw[aZ hn];rfl
  ·rw[hr]
   dsimp only;rw[bF (by omega)]
theorem Iy (B:Nat)(o:Option Addr)(c:Nat)(l:List Nat)(p a:Nat)(lost:Bool)(w:World)(hB:B≤w.heap.size)(k:fW l a)(h:Pk.ZR o c l p a lost w)(iE:∀b off,o=some ⟨b,off,none⟩→0<l.length→b<w.heap.size) :
  Calls prog 48 #[.pointer (some ⟨p,0,none⟩)] w (ZObj B p a lost o c l w):=by
 obtain ⟨ZC,hZC⟩:∃Z:Array Value,#[.int .i64 0,.int .i64 0,.int .i64 0,.int .i64 0,.int .i64 0,.int .i64 0,.int .i64 0,.int .i64 0,.int .i64 0,.int .i64 0,.int .i64 0,.int .i64 0,.int .i64 0,.int .i64 0,.int .i64 0,.int .i64 0,.int .i64 0,.slice none 0 0,.slice none 0 0]=Z:=⟨_,rfl⟩;have HZC:=aA hZC;obtain ⟨A0,hA0⟩:∃V,w.alloc (.cells #[.int .i64 0,.int .i64 0,.int .i64 0,.int .i64 0,.int .i64 0,.int .i64 0,.int .i64 0,.int .i64 0,.int .i64 0,.int .i64 0,.int .i64 0,.int .i64 0,.int .i64 0,.int .i64 0,.int .i64 0,.int .i64 0,.int .i64 0,.slice none 0 0,.slice none 0 0] 73)=V:=⟨_,rfl⟩;have HA0:=aA hA0;have HAZ:=aA (show A0.heap.size=w.heap.size+1 by rw[←hA0];simp);obtain ⟨A1,IP⟩:∃V,A0.alloc (.cells #[.int .i64 0,.int .i64 0,.int .i64 0,.int .i64 0,.int .i64 0,.int .i64 0,.int .i64 0,.int .i64 0,.int .i64 0,.int .i64 0,.int .i64 0,.int .i64 0,.int .i64 0,.int .i64 0,.int .i64 0,.int .i64 0,.int .i64 0,.slice none 0 0,.slice none 0 0] 73)=V:=⟨_,rfl⟩;have Cv:=aA IP;rw[←hA0] at IP;obtain ⟨V0,jR⟩:∃V,A1.setRow (w.heap.size+1) ZC=V:=⟨_,rfl⟩;have ra:dI 73 (w.heap.size+1) #[.int .i64 0,.int .i64 0,.int .i64 0,.int .i64 0,.int .i64 0,.int .i64 0,.int .i64 0,.int .i64 0,.int .i64 0,.int .i64 0,.int .i64 0,.int .i64 0,.int .i64 0,.int .i64 0,.int .i64 0,.int .i64 0,.int .i64 0,.slice none 0 0,.slice none 0 0] A1:=by
  rw[←IP];have:=aG (w.alloc (.cells #[.int .i64 0,.int .i64 0,.int .i64 0,.int .i64 0,.int .i64 0,.int .i64 0,.int .i64 0,.int .i64 0,.int .i64 0,.int .i64 0,.int .i64 0,.int .i64 0,.int .i64 0,.int .i64 0,.int .i64 0,.int .i64 0,.int .i64 0,.slice none 0 0,.slice none 0 0] 73)) (.cells #[.int .i64 0,.int .i64 0,.int .i64 0,.int .i64 0,.int .i64 0,.int .i64 0,.int .i64 0,.int .i64 0,.int .i64 0,.int .i64 0,.int .i64 0,.int .i64 0,.int .i64 0,.int .i64 0,.int .i64 0,.int .i64 0,.int .i64 0,.slice none 0 0,.slice none 0 0] 73);rw[aR] at this;exact this
 have hb0:Below w.heap.size w V0:=by rw[←jR,←IP];exact Below.row (((aJ _ _).alloc (aB _) _).alloc (by simp) _) (by omega) _
 have h0:UT o c l p a lost 0 dZ (.slice none 0 0) (.slice none 0 0) w V0:=by
  refine ⟨?_,?_,h.below hb0,k.at',Pk.below_grown hb0 (some p)⟩
  ·rw[←jR,setRow_other _ _ _ _ (by omega),←IP];exact dM (aG _ _)
  ·rw[←jR,←hZC];exact ra.row _
 have H0:=aA h0;have HK:=aA k;have HP:=aA h.lt;have jA:=aA iE;have zK:=aA hB;have oJ:=aA jR;have HRA:=aA ra;have yT:=aA (mY 65535 (by omega) o c l p a lost V0 k h0.rd);have hzo:=aA (show (prog.info? 73).map (·.size)=some ZC.size by rw[←hZC];kernel_rfl);have hz3:=aA (show 19=ZC.size by rw[←hZC];rfl);have hz4:=aA (show ZC.all (·.oneCell')=true by rw[←hZC];kernel_rfl);clear h hb0 k IP jR iE h0 hB ra hA0 hZC;go_enter func48,ntmps48;go_wp2_with (first|(rw[HA0.out])|(rw[Cv.out])|(rw[HAZ.out])|(rw[oJ.out])|(with_reducible refine dQ (some 10) rfl ?_;refine aA ?_;refine fY rfl (.agg ZC) A0 (by rw[←HZC.out];kernel_rfl) ?_)|(refine dG rfl 73 (.tmp 3) (.tmp 10) rfl (w.heap.size+1) _ _ ZC rfl rfl HRA.out hzo.out hz3.out hz4.out ?_))
 refine yT.out.mono ?_;rintro e w1 h1;obtain ⟨hg1,x1,a1,lo1,rfl,oF,qP,zV,hr1⟩:=mB.use h1;have zQ:=H0.out.step HP.out hg1 qP zV;obtain ⟨q0,f0⟩:=zQ.cell (j:=0) rfl;have tX:=zQ.set (j:=0) (u:=.int .i64 x1) (id2:=x1) (m2:=dZ) (u1:=.slice none 0 0) (u2:=.slice none 0 0) HP.out jA.out rfl;obtain ⟨Y1,sZ⟩:∃V,w1.setCell ⟨w.heap.size+1,0,none⟩ (.int .i64 x1)=V:=⟨_,rfl⟩;rw[sZ] at tX;have H2:=aA tX;have OH:=aA oF;have qQ:=aA hr1;have UF:=aA sZ;have pM:∀b off,o=some ⟨b,off,none⟩→0<l.length→b<Y1.heap.size:=fun b off e hm=>aP (jA.out b off e hm) tX.grow.size
 have HM:=aA (JH o c l p a1 lo1 Y1 (iH HK.out zV) tX.rd pM);clear h1 hg1 oF qP zV hr1 zQ tX sZ pM yT H0 oJ HA0 Cv HAZ HRA hzo hz3 hz4 HZC;go_wp2_with (rw[UF.out])
 clear UF q0 f0;refine HM.out.mono ?_;rintro e w2 h2;obtain ⟨hg2,zs,a2,lo2,rfl,nS,rH,hl2,hr2⟩:=mB.use h2;have yI:=H2.out.step HP.out hg2 rH hl2;have oV:w2.there (w.heap.size+1) 1 (mC zs).size:=fun j hj=>by
  rw[eV,nS.1] at hj;refine ⟨?_,dJ yI.box⟩;rw[aD _ _ _ _ _ _ yI.box];simp[nK,dZ];omega
 obtain ⟨Y2,lM⟩:∃V,w2.setCells (w.heap.size+1) 1 (mC zs).toList=V:=⟨_,rfl⟩;have MX:UT o c l p a2 lo2 x1 zs (.slice none 0 0) (.slice none 0 0) w Y2:=by
  have EN:Below w.heap.size w2 Y2:=by rw[←lM];exact lG (by omega) _ _ ⟨rfl,rfl,rfl,aB _,fun _ _=>rfl⟩
  refine yI.put HP.out jA.out EN ?_ ?_
  ·rw[←lM]
   exact lQ (by omega) _ _ _
  ·have:=lO (mC zs).toList [.int .i64 x1] (dZ.map encI) [.slice none 0 0,.slice none 0 0] w2 (by simp[mC,dZ,nS.1]) (by exact yI.box)
   rw[←lM];rw[show ([Value.int .i64 x1]:List Value).length=1 from rfl] at this;rw[this];simp[nK,mC]
 have nT:=aA (show (prog.info? 25).map (·.size)=some (mC zs).size by rw[eV,nS.1];kernel_rfl);have Sx:=aA oV;have H4:=aA MX;have wT:=aA nS;have iP:=aA hr2;have zI:=aA lM;have Co:=aA (mY 64 (by omega) o c l p a2 lo2 Y2 (iH HK.out hl2) MX.rd);clear h2 hg2 nS rH hl2 hr2 yI MX oV lM HM H2;go_wp2_with (first|(rw[zI.out])|(refine wpList_store_mid rfl 25 (.tmp 16) (.tmp 15) rfl (w.heap.size+1) 1 (mC zs) rfl rfl Sx.out nT.out (iV _) ?_))
 clear zI Sx;refine Co.out.mono ?_;rintro e w3 h3;obtain ⟨hg3,nz,a3,lo3,rfl,hnz,xX,BI,hr3⟩:=mB.use h3;obtain ⟨nv,rfl⟩:=Int.eq_ofNat_of_zero_le hnz.1;have v64:(nv:Int)≤64:=hnz.2;have v0:(0:Int)≤(nv:Int):=by omega
 have GX:Hid (KV o c l p a3 lo3 x1 zs none 0 [] none 0 [] w w3):=aA ⟨H4.out.step HP.out hg3 xX BI,fK.nil _ _ _ _ _,fK.nil _ _ _ _ _,fun z hz=>by simp at hz,fun z hz=>by simp at hz⟩;have xZ:=aA hr3;clear h3 hg3 xX BI hr3 hnz Co H4;go_wp2_with fail;go_loopg[5] nv (fun g s5 wx=>∃ (vs:List (List Int)) (ov:Option Addr) (cv b:Nat) (lo:Bool),g=nv-vs.length∧s5=.int .i64 (vs.length:Int)∧vs.length≤nv∧KV o c l p b lo x1 zs ov cv vs none 0 [] w wx∧eP lo3 (fE oT vs.length) l a3=opt lo (vs,b))
 case atStart=>exact ⟨[],none,0,a3,lo3,rfl,rfl,by simp,GX.out,nI _ _ _ _⟩
 case round =>
  obtain ⟨vs,ov,cv,b,lo,rfl,rfl,hk,hj,hrun⟩:=hrel;obtain ⟨w6,kA⟩:∃X,X=wr:=⟨_,rfl⟩;subst kA;have HJ:=aA hj;have Rb:=aA hrun;clear hj hrun GX;obtain ⟨nvs,hnvs⟩:∃n,vs.length=n:=⟨_,rfl⟩;have k0:(0:Int)≤(vs.length:Int):=by omega
  clear hnvs;by_cases pK:vs.length<nv
  ·have t2:(vs.length:Int)<(nv:Int):=by omega
   have HVL:=aA (show vs.length≤1000 by omega);obtain ⟨V1,hV1⟩:∃V,w6.alloc (.cells #[.int .i64 0,.int .i64 0,.int .i64 0] 85)=V:=⟨_,rfl⟩;have b1:Below w6.heap.size w6 V1:=by rw[←hV1];exact (aJ _ _).alloc (aB _) _
   have hr1:dI 85 w6.heap.size #[.int .i64 0,.int .i64 0,.int .i64 0] V1:=by rw[←hV1];exact dI.new _ _ _
   have EL:=HJ.out.up b1;have UX:=aA (show (Value.slice ov vs.length cv).ownBlock≠some w6.heap.size from fun e=>by have:=HJ.out.vo.lt _ e;omega);have Yv:=aA (show (Value.slice none ([]:List gB).length 0).ownBlock≠some w6.heap.size from fun e=>by cases e);have Za:=aA HJ.out.lt;have Yt:=aA (show w6.heap.size≠p by have:=HP.out;have:=HJ.out.lt;omega);have PF:=aA EL;have HRW:=aA hr1;have nX:=aA (AJ o c l p b lo V1 (iH HK.out EL.base.le) EL.base.rd);have vF:=aA hV1;clear b1 hr1 EL hV1 HJ;go_wp2_with (rw[vF.out])
   clear vF;refine nX.out.mono ?_;rintro e x31 h3;obtain ⟨hg,z1,b31,aAe,rfl,hn,hp,hl,hr⟩:=mB.use h3;have rx:dI 85 w6.heap.size #[.int .i64 0,.int .i64 0,.int .i64 0] x31:=fA HRW.out hg Yt.out;have jx:=PF.out.step HP.out hg hp hl;obtain ⟨Y31,hY⟩:∃V,x31.setCell ⟨w6.heap.size,0,none⟩ (.int .i64 z1)=V:=⟨_,rfl⟩;have e1:x31.cell? ⟨w6.heap.size,0,none⟩=some (.int .i64 0):=by rw[aD _ _ _ _ _ _ rx];rfl
   have g1:x31.frozen? ⟨w6.heap.size,0,none⟩=false:=dJ rx;have ry:dI 85 w6.heap.size #[.int .i64 z1,.int .i64 0,.int .i64 0] Y31:=by
    have:=aM _ _ 0 _ _ (.int .i64 z1) rx;rw[hY] at this;exact this
   have jy:=jx.put HP.out jA.out (j:=0) (u:=.int .i64 z1) rx (by decide) (by decide) UX.out Yv.out Za.out;rw[hY] at jy;have YM:=aA jy;have Ra:=aA ry;have HN31:=aA hn;have HR31:=aA hr;have Qs:=aA hY;have jP:=aA (AJ o c l p b31 aAe Y31 (iH HK.out jy.base.le) jy.base.rd);clear h3 hg hn hp hl hr rx jx ry jy hY nX PF HRW;go_wp2_with (rw[Qs.out])
   clear e1 g1 Qs;refine jP.out.mono ?_;rintro e x32 h3;obtain ⟨hg,z2,b32,aAd,rfl,hn,hp,hl,hr⟩:=mB.use h3;have rx:dI 85 w6.heap.size #[.int .i64 z1,.int .i64 0,.int .i64 0] x32:=fA Ra.out hg Yt.out;have jx:=YM.out.step HP.out hg hp hl;obtain ⟨Y32,hY⟩:∃V,x32.setCell ⟨w6.heap.size,1,none⟩ (.int .i64 z2)=V:=⟨_,rfl⟩;have e2:x32.cell? ⟨w6.heap.size,1,none⟩=some (.int .i64 0):=by rw[aD _ _ _ _ _ _ rx];rfl
   have g2:x32.frozen? ⟨w6.heap.size,1,none⟩=false:=dJ rx;have ry:dI 85 w6.heap.size #[.int .i64 z1,.int .i64 z2,.int .i64 0] Y32:=by
    have:=aM _ _ 1 _ _ (.int .i64 z2) rx;rw[hY] at this;exact this
   have jy:=jx.put HP.out jA.out (j:=1) (u:=.int .i64 z2) rx (by decide) (by decide) UX.out Yv.out Za.out;rw[hY] at jy;have GX:=aA jy;have Qz:=aA ry;have HN32:=aA hn;have HR32:=aA hr;have Qr:=aA hY;have qB:=aA (AJ o c l p b32 aAd Y32 (iH HK.out jy.base.le) jy.base.rd);clear h3 hg hn hp hl hr rx jx ry jy hY jP YM Ra;go_wp2_with (rw[Qr.out])
   clear e2 g2 Qr;refine qB.out.mono ?_;rintro e Tw h3;obtain ⟨hg,z3,b33,Vl,rfl,hn,hp,hl,hr⟩:=mB.use h3;have rx:dI 85 w6.heap.size #[.int .i64 z1,.int .i64 z2,.int .i64 0] Tw:=fA Qz.out hg Yt.out;have jx:=GX.out.step HP.out hg hp hl;obtain ⟨Qj,hY⟩:∃V,Tw.setCell ⟨w6.heap.size,2,none⟩ (.int .i64 z3)=V:=⟨_,rfl⟩;have e3:Tw.cell? ⟨w6.heap.size,2,none⟩=some (.int .i64 0):=by rw[aD _ _ _ _ _ _ rx];rfl
   have g3:Tw.frozen? ⟨w6.heap.size,2,none⟩=false:=dJ rx;have ry:dI 85 w6.heap.size #[.int .i64 z1,.int .i64 z2,.int .i64 z3] Qj:=by
    have:=aM _ _ 2 _ _ (.int .i64 z3) rx;rw[hY] at this;exact this
   have jy:=jx.put HP.out jA.out (j:=2) (u:=.int .i64 z3) rx (by decide) (by decide) UX.out Yv.out Za.out;rw[hY] at jy;have JA:=aA jy;have Yp:=aA ry;have HN33:=aA hn;have HR33:=aA hr;have Qq:=aA hY;clear h3 hg hn hp hl hr rx jx ry jy hY qB GX Qz;obtain ⟨v,hv⟩:∃v:List Int,[z1,z2,z3]=v:=⟨_,rfl⟩;have tB:jI v:=by
    rw[←hv];refine ⟨rfl,fun j=>?_⟩
    match j with
    | 0=>exact HN31.out
    | 1=>exact HN32.out
    | 2=>exact HN33.out
    | j+3=>exact ⟨by simp,by simp⟩
   have hvr:eP lo oT l b=opt Vl (v,b33):=by
    rw[←hv];exact iD (iD (iD (nI pI l lo b) HR31.out) HR32.out) HR33.out
   obtain ⟨V5,xO⟩:∃V,Qj.alloc (.cells (v.map encI).toArray 85)=V:=⟨_,rfl⟩;have b5:Below Qj.heap.size Qj V5:=by rw[←xO];exact (aJ _ _).alloc (aB _) _
   have oN:=aA (show Qj.rangeAt w6.heap.size 0 (v.map encI) from fun j u hj=>by rw[bE,aD _ _ _ _ _ _ Yp.out];rw[←hv] at hj;simpa[encI] using hj);have sX:=aA (JA.out.up b5);have mG:=aA (show V5.heap[Qj.heap.size]?=some (.cells (v.map encI).toArray 85 (0,0)) by rw[←xO];exact aG _ _);have s17:Qj.cell? ⟨w.heap.size+1,17,none⟩=some (.slice ov vs.length cv):=(JA.out.base.cell (j:=17) (by simp[nK,wT.out.1])).1;have HVW:=aA tB;have HVR:=aA hvr;have GC:Hid (w.heap.size+2≤V5.heap.size):=aA (by have:=sX.out.lt;omega);have hit:=aA (show (prog.info? 85).map (·.size)=some (v.map encI).length by rw[aT,tB.len];kernel_rfl);have HL3:Hid ((v.map encI).toArray.size=3):=aA (by rw[aL,aT,tB.len]);have UG:=aA xO;clear hv tB hvr b5 xO JA Yp HN31 HN32 HN33 HR31 HR32 HR33;go_wp2_with (first|(rw[Qq.out])|(rw[UG.out])|(with_reducible refine dQ (some 35) rfl ?_;refine aA ?_;refine wpList_load_mid rfl 85 (.tmp 6) rfl w6.heap.size 0 rfl (v.map encI) _ oN.out cU rfl hit.out ?_)|(with_reducible refine dQ (some 36) rfl ?_;refine aA ?_;refine jC EH (by omega) rfl (.tmp 35) 70 rfl dD (v.map encI).toArray rfl HL3.out ?_)|(at_builtin;refine pD EH rfl (.tmp 34) (.tmp 36) 70 rfl dD (w.heap.size+2) (.slice ov vs.length cv) vs [v] rfl GC.out sX.out.vo (some ⟨Qj.heap.size,0,none⟩) 1 rfl (fun h=>by cases h) (kE mG.out) (fun z hz=>by simp at hz;subst hz;have:=HL3.out;rwa [aL] at this) (fun z _=>xR z) (by have:=HVL.out;simp;omega) ?_))
   clear s17 e3 g3;intro v4 X5 ND SS;refine aA ?_;obtain ⟨ow,cw,tB,_,_⟩:=ND.form (fun z hz=>by
    rcases bS.1 hz with hz|hz
    ·rw[aT];exact (sX.out.vw z hz).len
    ·simp at hz;subst hz;rw[aT];exact HVW.out.len)
   subst tB;have GN:=sX.out.appV (v':=.slice ow (vs++[v]).length cw) HP.out jA.out ND SS HVW.out wT.out.1;have f18:X5.cell? ⟨w.heap.size+1,17,none⟩=some (.slice ov vs.length cv):=GN.1;have f19:X5.frozen? ⟨w.heap.size+1,17,none⟩=false:=GN.2.1;have OL:=aA GN.2.2;have Cq:=aA (iD Rb.out HVR.out);obtain ⟨ml,jH⟩:∃ml,(vs++[v]).length=ml:=⟨_,rfl⟩;have CG:=aA jH;rw[jH] at OL ⊢;clear ND SS GN jH sX mG oN UG Qq;go_wp2_with fail;go_roundg (nv-(vs.length+1))
   case measure=>omega
   case rel=>exact ⟨vs++[v],ow,cw,_,_,by simp,by rw[aI];go_num,by simp;omega,OL.out,by rw[aI];exact Cq.out⟩
  ·obtain ⟨b9,OU⟩:∃n,n=b:=⟨_,rfl⟩
   obtain ⟨lo9,hlo9⟩:∃n,n=lo:=⟨_,rfl⟩;subst OU;subst hlo9;have hnv:vs.length=nv:=by omega
   have t2:¬ (vs.length:Int)<(nv:Int):=by omega
   have Il:=aA (show eP lo2 (fG 64 oT) l a2=opt lo9 (vs,b9) from uS xZ.out (by rw[show ((nv:Int)).toNat=vs.length by omega];exact Rb.out));have HS5:=aA (mY 64 (by omega) o c l p b9 lo9 w6 (iH HK.out HJ.out.base.le) HJ.out.base.rd);clear hnv;go_wp2_with fail;refine HS5.out.mono ?_;rintro e w5 h5;obtain ⟨SS,nz5,a5,lo5,rfl,hnz5,SF,hl5,Sc⟩:=mB.use h5;obtain ⟨nt,rfl⟩:=Int.eq_ofNat_of_zero_le hnz5.1;have u64:(nt:Int)≤64:=hnz5.2;have u0:(0:Int)≤(nt:Int):=by omega
   have sX:=aA (HJ.out.step HP.out SS SF hl5);have Rf:=aA Sc;clear h5 SS SF hl5 Sc hnz5 HS5 HJ Rb xZ;go_wp2_with fail;go_loopg[7] nt (fun g s7 wx=>∃ (ts:List gB) (ot:Option Addr) (ct b:Nat) (lo:Bool),g=nt-ts.length∧s7=.int .i64 (ts.length:Int)∧ts.length≤nt∧KV o c l p b lo x1 zs ov cv vs ot ct ts w wx∧eP lo5 (fE tJ ts.length) l a5=opt lo (ts,b))
   case atStart=>exact ⟨[],none,0,a5,lo5,rfl,rfl,by simp,sX.out,nI _ _ _ _⟩
   case round =>
    obtain ⟨ts,ot,ct,b,lo,rfl,rfl,hk,hj,hrun⟩:=hrel;obtain ⟨w8,kH⟩:∃X,X=wr:=⟨_,rfl⟩;subst kH;have HJ:=aA hj;have Yq:=aA hrun;clear hj hrun sX;have k1:(0:Int)≤(ts.length:Int):=by omega
    by_cases hkt:ts.length<nt
    ·have t3:(ts.length:Int)<(nt:Int):=by omega
     have oh:=aA (show ts.length≤1000 by omega);obtain ⟨ZT,hZT⟩:∃Z:Array Value,#[.int .i64 0,.int .i64 0,.int .i64 0,.int .u32 0]=Z:=⟨_,rfl⟩;have HZT:=aA hZT;obtain ⟨V1,hV1⟩:∃V,w8.alloc (.cells #[.int .i64 0,.int .i64 0,.int .i64 0,.int .u32 0] 87)=V:=⟨_,rfl⟩;obtain ⟨V2,hV2⟩:∃V,V1.setRow w8.heap.size ZT=V:=⟨_,rfl⟩;have hr1:dI 87 w8.heap.size #[.int .i64 0,.int .i64 0,.int .i64 0,.int .u32 0] V1:=by rw[←hV1];exact dI.new _ _ _
     have hr2:dI 87 w8.heap.size #[.int .i64 0,.int .i64 0,.int .i64 0,.int .u32 0] V2:=by rw[←hV2,←hZT];exact hr1.row _
     have b1:Below w8.heap.size w8 V2:=by rw[←hV2,←hV1];exact Below.row ((aJ _ _).alloc (aB _) _) (aB _) _
     have EL:=HJ.out.up b1;have UX:=aA (show (Value.slice ov vs.length cv).ownBlock≠some w8.heap.size from fun e=>by have:=HJ.out.vo.lt _ e;omega);have Yv:=aA (show (Value.slice ot ts.length ct).ownBlock≠some w8.heap.size from fun e=>by have:=HJ.out.tv.lt _ e;omega);have Za:=aA HJ.out.lt;have Yt:=aA (show w8.heap.size≠p by have:=HP.out;have:=HJ.out.lt;omega);have PF:=aA EL;have HRW:=aA hr2;have Hj:=aA hr1;have hz1:=aA (show (prog.info? 87).map (·.size)=some ZT.size by rw[←hZT];kernel_rfl);have hz3:=aA (show 4=ZT.size by rw[←hZT];rfl);have hz4:=aA (show ZT.all (·.oneCell')=true by rw[←hZT];kernel_rfl);have nX:=aA (mY 63 (by omega) o c l p b lo V2 (iH HK.out EL.base.le) EL.base.rd);have vF:=aA hV1;have oM:=aA hV2;clear b1 hr1 hr2 EL hV1 hV2 HJ hZT;go_wp2_with (first|(rw[vF.out])|(rw[oM.out])|(with_reducible refine dQ (some 46) rfl ?_;refine aA ?_;refine fY rfl (.agg ZT) w8 (by rw[←HZT.out];kernel_rfl) ?_)|(refine dG rfl 87 (.tmp 8) (.tmp 46) rfl w8.heap.size _ _ ZT rfl rfl Hj.out hz1.out hz3.out hz4.out ?_))
     clear vF oM Hj hz1 hz3 hz4 HZT;refine nX.out.mono ?_;rintro e x31 h3;obtain ⟨hg,y1,b31,aAe,rfl,hn,hp,hl,hr⟩:=mB.use h3;have rx:dI 87 w8.heap.size #[.int .i64 0,.int .i64 0,.int .i64 0,.int .u32 0] x31:=fA HRW.out hg Yt.out;have jx:=PF.out.step HP.out hg hp hl;obtain ⟨Y31,hY⟩:∃V,x31.setCell ⟨w8.heap.size,0,none⟩ (.int .i64 y1)=V:=⟨_,rfl⟩;have e1:x31.cell? ⟨w8.heap.size,0,none⟩=some (.int .i64 0):=by rw[aD _ _ _ _ _ _ rx];rfl
     have g1:x31.frozen? ⟨w8.heap.size,0,none⟩=false:=dJ rx;have ry:dI 87 w8.heap.size #[.int .i64 y1,.int .i64 0,.int .i64 0,.int .u32 0] Y31:=by
      have:=aM _ _ 0 _ _ (.int .i64 y1) rx;rw[hY] at this;exact this
     have jy:=jx.put HP.out jA.out (j:=0) (u:=.int .i64 y1) rx (by decide) (by decide) UX.out Yv.out Za.out;rw[hY] at jy;have YM:=aA jy;have Ra:=aA ry;have nu:=aA hn;have HRR1:=aA hr;have Qs:=aA hY;have jP:=aA (mY 63 (by omega) o c l p b31 aAe Y31 (iH HK.out jy.base.le) jy.base.rd);clear h3 hg hn hp hl hr rx jx ry jy hY nX PF HRW;go_wp2_with (rw[Qs.out])
     clear e1 g1 Qs;refine jP.out.mono ?_;rintro e x32 h3;obtain ⟨hg,y2,b32,aAd,rfl,hn,hp,hl,hr⟩:=mB.use h3;have rx:dI 87 w8.heap.size #[.int .i64 y1,.int .i64 0,.int .i64 0,.int .u32 0] x32:=fA Ra.out hg Yt.out;have jx:=YM.out.step HP.out hg hp hl;obtain ⟨Y32,hY⟩:∃V,x32.setCell ⟨w8.heap.size,1,none⟩ (.int .i64 y2)=V:=⟨_,rfl⟩;have e2:x32.cell? ⟨w8.heap.size,1,none⟩=some (.int .i64 0):=by rw[aD _ _ _ _ _ _ rx];rfl
     have g2:x32.frozen? ⟨w8.heap.size,1,none⟩=false:=dJ rx;have ry:dI 87 w8.heap.size #[.int .i64 y1,.int .i64 y2,.int .i64 0,.int .u32 0] Y32:=by
      have:=aM _ _ 1 _ _ (.int .i64 y2) rx;rw[hY] at this;exact this
     have jy:=jx.put HP.out jA.out (j:=1) (u:=.int .i64 y2) rx (by decide) (by decide) UX.out Yv.out Za.out;rw[hY] at jy;have GX:=aA jy;have Qz:=aA ry;have Sv:=aA hn;have HRR2:=aA hr;have Qr:=aA hY;have qB:=aA (mY 63 (by omega) o c l p b32 aAd Y32 (iH HK.out jy.base.le) jy.base.rd);clear h3 hg hn hp hl hr rx jx ry jy hY jP YM Ra;go_wp2_with (rw[Qr.out])
     clear e2 g2 Qr;refine qB.out.mono ?_;rintro e Tw h3;obtain ⟨hg,y3,b33,Vl,rfl,hn,hp,hl,hr⟩:=mB.use h3;have rx:dI 87 w8.heap.size #[.int .i64 y1,.int .i64 y2,.int .i64 0,.int .u32 0] Tw:=fA Qz.out hg Yt.out;have jx:=GX.out.step HP.out hg hp hl;obtain ⟨Qj,hY⟩:∃V,Tw.setCell ⟨w8.heap.size,2,none⟩ (.int .i64 y3)=V:=⟨_,rfl⟩;have e3:Tw.cell? ⟨w8.heap.size,2,none⟩=some (.int .i64 0):=by rw[aD _ _ _ _ _ _ rx];rfl
     have g3:Tw.frozen? ⟨w8.heap.size,2,none⟩=false:=dJ rx;have ry:dI 87 w8.heap.size #[.int .i64 y1,.int .i64 y2,.int .i64 y3,.int .u32 0] Qj:=by
      have:=aM _ _ 2 _ _ (.int .i64 y3) rx;rw[hY] at this;exact this
     have jy:=jx.put HP.out jA.out (j:=2) (u:=.int .i64 y3) rx (by decide) (by decide) UX.out Yv.out Za.out;rw[hY] at jy;have JA:=aA jy;have Yp:=aA ry;have nk:=aA hn;have HRR3:=aA hr;have Qq:=aA hY;have HU:=aA (zu_r o c l p b33 Vl Qj (iH HK.out jy.base.le) jy.base.rd);have HRW4:=Yp;clear h3 hg hn hp hl hr rx jx ry jy hY qB GX Qz;go_wp2_with (rw[Qq.out])
     clear e3 g3 Qq;refine HU.out.mono ?_;rintro e x4 ⟨n4,b4,Ad,rfl,Vz,hl4,NC,hg4,hA,Ay⟩;have xu:dI 87 w8.heap.size #[.int .i64 y1,.int .i64 y2,.int .i64 y3,.int .u32 0] x4:=fA HRW4.out hg4 Yt.out;have jx4:=JA.out.step HP.out hg4 NC hl4;have n40:(0:Int)≤(n4:Int):=by omega
     have n41:(n4:Int)≤18446744073709551615:=by omega
     by_cases hn5:n4≤4294967295
     ·have t5:¬ (4294967295:Int)<(n4:Int):=by omega
      have t6:(n4:Int)≤4294967295:=by omega
      have hU4:=hA hn5;obtain ⟨Y4,xN⟩:∃V,x4.setCell ⟨w8.heap.size,3,none⟩ (.int .u32 (n4:Int))=V:=⟨_,rfl⟩;have e3:x4.cell? ⟨w8.heap.size,3,none⟩=some (.int .u32 0):=by rw[aD _ _ _ _ _ _ xu];rfl
      have g3:x4.frozen? ⟨w8.heap.size,3,none⟩=false:=dJ xu;have ry4:dI 87 w8.heap.size #[.int .i64 y1,.int .i64 y2,.int .i64 y3,.int .u32 (n4:Int)] Y4:=by
       have:=aM _ _ 3 _ _ (.int .u32 (n4:Int)) xu;rw[xN] at this;exact this
      have Vp:=jx4.put HP.out jA.out (j:=3) (u:=.int .u32 (n4:Int)) xu (by decide) (by decide) UX.out Yv.out Za.out;rw[xN] at Vp;obtain ⟨t,ht⟩:∃t:gB,(⟨y1,y2,y3,(n4:Int)⟩:gB)=t:=⟨_,rfl⟩;have GK:mN t:=by rw[←ht];exact ⟨kX (by omega) nu.out,kX (by omega) Sv.out,kX (by omega) nk.out,by show (0:Int)≤(n4:Int);omega,by show (n4:Int)<4294967296;omega⟩
      have htr:eP lo tJ l b=opt Ad (t,b4):=by
       have:=CY JN (fZ HRR1.out (fZ HRR2.out (fZ HRR3.out hU4)));rw[←ht];exact this
      obtain ⟨V5,xO⟩:∃V,Y4.alloc (.cells (fC t).toArray 87)=V:=⟨_,rfl⟩;have b5:Below Y4.heap.size Y4 V5:=by rw[←xO];exact (aJ _ _).alloc (aB _) _
      have oN:=aA (show Y4.rangeAt w8.heap.size 0 (fC t) from fun j u hj=>by rw[bE,aD _ _ _ _ _ _ ry4];rw[←ht] at hj;simpa[fC] using hj);have sX:=aA (Vp.up b5);have mG:=aA (show V5.heap[Y4.heap.size]?=some (.cells (fC t).toArray 87 (0,0)) by rw[←xO];exact aG _ _);have Ic:Y4.cell? ⟨w.heap.size+1,18,none⟩=some (.slice ot ts.length ct):=(Vp.base.cell (j:=18) (by simp[nK,wT.out.1])).1;have og:=aA GK;have HTR:=aA htr;have GC:Hid (w.heap.size+2≤V5.heap.size):=aA (by have:=sX.out.lt;omega);have hit:=aA (show (prog.info? 87).map (·.size)=some (fC t).length by kernel_rfl);have UV:=aA xN;have UG:=aA xO;clear jx4 xu Vp ry4 ht GK htr b5 xN xO NC hg4 hA Ay hU4;go_wp2_with (first|(rw[UV.out])|(rw[UG.out])|(with_reducible refine dQ (some 68) rfl ?_;refine aA ?_;refine wpList_load_mid rfl 87 (.tmp 8) rfl w8.heap.size 0 rfl (fC t) _ oN.out cR rfl hit.out ?_)|(with_reducible refine dQ (some 69) rfl ?_;refine aA ?_;refine jC wC (by omega) rfl (.tmp 68) 71 rfl cV (fC t).toArray rfl rfl ?_)|(at_builtin;refine pD wC rfl (.tmp 67) (.tmp 69) 71 rfl cV (w.heap.size+2) (.slice ot ts.length ct) ts [t] rfl GC.out sX.out.tv (some ⟨Y4.heap.size,0,none⟩) 1 rfl (fun h=>by cases h) (kE mG.out) (fun z hz=>rfl) (fun z _=>uR z) (by have:=oh.out;simp;omega) ?_))
      clear e3 g3 Ic;intro v4 X5 ND SS;refine aA ?_;obtain ⟨ow,cw,tB,_,_⟩:=ND.form (fun z hz=>rfl);subst tB;have GN:=sX.out.appT HP.out jA.out ND SS og.out wT.out.1;have f18:X5.cell? ⟨w.heap.size+1,18,none⟩=some (.slice ot ts.length ct):=GN.1;have f19:X5.frozen? ⟨w.heap.size+1,18,none⟩=false:=GN.2.1;have OL:=aA GN.2.2;have Cq:=aA (iD Yq.out HTR.out);obtain ⟨ml,jH⟩:∃ml,(ts++[t]).length=ml:=⟨_,rfl⟩;have CG:=aA jH;rw[jH] at OL ⊢;clear ND SS GN jH sX mG oN UG UV;go_wp2_with fail;go_roundg (nt-(ts.length+1))
      case measure=>omega
      case rel=>exact ⟨ts++[t],ow,cw,_,_,by simp,by rw[aI];go_num,by simp;omega,OL.out,by rw[aI];exact Cq.out⟩
     ·have t5:(4294967295:Int)<(n4:Int):=by omega
      have hU4:=Ay (by omega);obtain ⟨_,_,d2,_,e2⟩:=jx4.base.rd.facts;obtain ⟨X4,Wx⟩:∃V,x4.setCell ⟨p,2,none⟩ (.bool true)=V:=⟨_,rfl⟩;have hgx:x4.grownBy X4 (some p):=by rw[←Wx];exact Pk.eC _ _ _ _
      have hpx:Pk.ZR o c l p b4 true X4:=by rw[←Wx];exact jx4.base.rd.rC true
      have rx5:dI 87 w8.heap.size #[.int .i64 y1,.int .i64 y2,.int .i64 y3,.int .u32 0] X4:=fA xu hgx Yt.out;have jx5:=jx4.step HP.out hgx hpx hl4;have HX4:=aA Wx;clear xu jx4 hgx hpx Wx;obtain ⟨Y4,xN⟩:∃V,X4.setCell ⟨w8.heap.size,3,none⟩ (.int .u32 ((n4:Int)%4294967296))=V:=⟨_,rfl⟩;have e3:X4.cell? ⟨w8.heap.size,3,none⟩=some (.int .u32 0):=by rw[aD _ _ _ _ _ _ rx5];rfl
      have g3:X4.frozen? ⟨w8.heap.size,3,none⟩=false:=dJ rx5;have ry4:dI 87 w8.heap.size #[.int .i64 y1,.int .i64 y2,.int .i64 y3,.int .u32 ((n4:Int)%4294967296)] Y4:=by
       have:=aM _ _ 3 _ _ (.int .u32 ((n4:Int)%4294967296)) rx5;rw[xN] at this;exact this
      have Vp:=jx5.put HP.out jA.out (j:=3) (u:=.int .u32 ((n4:Int)%4294967296)) rx5 (by decide) (by decide) UX.out Yv.out Za.out;rw[xN] at Vp;obtain ⟨t,ht⟩:∃t:gB,(⟨y1,y2,y3,((n4:Int)%4294967296)⟩:gB)=t:=⟨_,rfl⟩;have GK:mN t:=by rw[←ht];exact ⟨kX (by omega) nu.out,kX (by omega) Sv.out,kX (by omega) nk.out,by show (0:Int)≤(n4:Int)%4294967296;omega,by show (n4:Int)%4294967296<4294967296;omega⟩
      have htr:eP lo tJ l b=opt true (t,b4):=by
       have:=CY JN (fZ HRR1.out (fZ HRR2.out (fZ HRR3.out (show eP Vl (pU 4294967295) l b33=opt true (((n4:Int)%4294967296),b4) by rw[hU4];rfl))));rw[←ht];exact this
      obtain ⟨V5,xO⟩:∃V,Y4.alloc (.cells (fC t).toArray 87)=V:=⟨_,rfl⟩;have b5:Below Y4.heap.size Y4 V5:=by rw[←xO];exact (aJ _ _).alloc (aB _) _
      have oN:=aA (show Y4.rangeAt w8.heap.size 0 (fC t) from fun j u hj=>by rw[bE,aD _ _ _ _ _ _ ry4];rw[←ht] at hj;simpa[fC] using hj);have sX:=aA (Vp.up b5);have mG:=aA (show V5.heap[Y4.heap.size]?=some (.cells (fC t).toArray 87 (0,0)) by rw[←xO];exact aG _ _);have Ic:Y4.cell? ⟨w.heap.size+1,18,none⟩=some (.slice ot ts.length ct):=(Vp.base.cell (j:=18) (by simp[nK,wT.out.1])).1;have og:=aA GK;have HTR:=aA htr;have GC:Hid (w.heap.size+2≤V5.heap.size):=aA (by have:=sX.out.lt;omega);have hit:=aA (show (prog.info? 87).map (·.size)=some (fC t).length by kernel_rfl);have UV:=aA xN;have UG:=aA xO;clear jx5 rx5 Vp ry4 ht GK htr b5 xN xO NC hg4 hA Ay hU4;go_wp2_with (first|(rw[HX4.out])|(rw[UV.out])|(rw[UG.out])|(with_reducible refine dQ (some 68) rfl ?_;refine aA ?_;refine wpList_load_mid rfl 87 (.tmp 8) rfl w8.heap.size 0 rfl (fC t) _ oN.out cR rfl hit.out ?_)|(with_reducible refine dQ (some 69) rfl ?_;refine aA ?_;refine jC wC (by omega) rfl (.tmp 68) 71 rfl cV (fC t).toArray rfl rfl ?_)|(at_builtin;refine pD wC rfl (.tmp 67) (.tmp 69) 71 rfl cV (w.heap.size+2) (.slice ot ts.length ct) ts [t] rfl GC.out sX.out.tv (some ⟨Y4.heap.size,0,none⟩) 1 rfl (fun h=>by cases h) (kE mG.out) (fun z hz=>rfl) (fun z _=>uR z) (by have:=oh.out;simp;omega) ?_))
      clear e3 g3 Ic;intro v4 X5 ND SS;refine aA ?_;obtain ⟨ow,cw,tB,_,_⟩:=ND.form (fun z hz=>rfl);subst tB;have GN:=sX.out.appT HP.out jA.out ND SS og.out wT.out.1;have f18:X5.cell? ⟨w.heap.size+1,18,none⟩=some (.slice ot ts.length ct):=GN.1;have f19:X5.frozen? ⟨w.heap.size+1,18,none⟩=false:=GN.2.1;have OL:=aA GN.2.2;have Cq:=aA (iD Yq.out HTR.out);obtain ⟨ml,jH⟩:∃ml,(ts++[t]).length=ml:=⟨_,rfl⟩;have CG:=aA jH;rw[jH] at OL ⊢;clear ND SS GN jH sX mG oN UG UV;go_wp2_with fail;go_roundg (nt-(ts.length+1))
      case measure=>omega
      case rel=>exact ⟨ts++[t],ow,cw,_,_,by simp,by rw[aI];go_num,by simp;omega,OL.out,by rw[aI];exact Cq.out⟩
    ·have t3:¬ (ts.length:Int)<(nt:Int):=by omega
     have HRM2:=aA (show eP lo9 (fG 64 tJ) l b9=opt lo (ts,b) from uS Rf.out (by rw[show ((nt:Int)).toNat=ts.length by omega];exact Yq.out));obtain ⟨x,hx⟩:∃x:eE,(⟨x1,zs,ov,vs,cv,ot,ts,ct⟩:eE)=x:=⟨_,rfl⟩;have hfo:=HJ.out.vo.form (fun z hz=>by rw[aT];exact (HJ.out.vw z hz).len);have hft:=HJ.out.tv.form (fun z hz=>rfl);obtain ⟨o1,c1,e1,hcv,hlv⟩:=hfo
     cases e1;obtain ⟨o2,c2,e2,hct,hlt⟩:=hft
     cases e2;have sY:jY x:=by rw[←hx];exact ⟨kX (by omega) OH.out,wT.out.1,fun j=>by
      rw[aS]
      cases hz:zs[j]? with
      | none=>exact ⟨by simp,by simp⟩
      | some z=>exact wT.out.2 z (aX hz),hcv,hct⟩
     have jm:w8.heap[w.heap.size+1]?=some (.cells (dP x).toArray 73 (0,0)):=by rw[←hx];exact HJ.out.base.box
     have oN:=aA (show w8.rangeAt (w.heap.size+1) 0 (dP x) from fun j u hj=>by rw[bE,aD _ _ _ _ _ _ jm];simpa using hj);obtain ⟨Y,hY⟩:∃V,w8.setRow w.heap.size (dP x).toArray=V:=⟨_,rfl⟩;have hres:dI 73 w.heap.size #[.int .i64 0,.int .i64 0,.int .i64 0,.int .i64 0,.int .i64 0,.int .i64 0,.int .i64 0,.int .i64 0,.int .i64 0,.int .i64 0,.int .i64 0,.int .i64 0,.int .i64 0,.int .i64 0,.int .i64 0,.int .i64 0,.int .i64 0,.slice none 0 0,.slice none 0 0] w8:=HJ.out.base.res;have AE:=aA (show dI 73 w.heap.size (dP x).toArray Y by rw[←hY];exact hres.row _);have EN:Below w.heap.size w8 Y:=by rw[←hY];exact Below.row ⟨rfl,rfl,rfl,aB _,fun _ _=>rfl⟩ (aB _) _
     have vN:∀ {t:TypeId},t≠73→Rows t w8 Y:=fun hne g cur hg=>by
      rw[←hY,setRow_other _ _ _ _ (fun e=>by
       subst e;unfold dI at hres;rw[hres] at hg
       cases hg;exact hne rfl)]
      exact hg
     have HE:Hid (ZObj B p a lost o c l w (.returned (.agg (dP x).toArray)) Y):=aA (by
      refine mB.make (gW HJ.out.base.grow EN) ⟨sY,?_,?_,?_,?_⟩ (uM HJ.out.base.rd HP.out jA.out EN) HJ.out.base.le ?_
      ·rw[←hx];exact (hlv.rows (vN (by decide))).base (by have:=zK.out;omega)
      ·rw[←hx];exact (hlt.rows (vN (by decide))).base (by have:=zK.out;omega)
      ·rw[←hx];exact HJ.out.vw
      ·rw[←hx];exact HJ.out.tw
      ·rw[←hx]
       exact fZ qQ.out (fZ iP.out (fZ Il.out HRM2.out)))
     have Nk:=aA (show (prog.info? 73).map (·.size)=some (dP x).length by rw[dX sY];kernel_rfl);have NH:=aA (show (prog.info? 73).map (·.size)=some (dP x).toArray.size by rw[aL,dX sY];kernel_rfl);have SP:=aA (show 19=(dP x).toArray.size by rw[aL,dX sY]);have SN:Hid ((dP x).toArray.all (·.oneCell')=true):=aA (by rw[List.all_toArray,bU];exact fun u hu=>lU x u hu);have Cq:=aA hres;have HYY:=aA hY;clear hx hcv hlv hct hlt sY jm hres EN vN hY HJ Yq;go_wp2_with (first|(rw[HYY.out])|(with_reducible refine dQ (some 72) rfl ?_;refine aA ?_;refine wpList_load_mid rfl 73 (.tmp 3) rfl (w.heap.size+1) 0 rfl (dP x) _ oN.out bW rfl Nk.out ?_)|(refine dG rfl 73 (.tmp 2) (.tmp 72) rfl w.heap.size _ _ (dP x).toArray rfl rfl Cq.out NH.out SP.out SN.out ?_))
     refine aO (v:=.agg (dP x).toArray) (results_cell_row rfl _ _ w.heap.size _ (dP x).toArray _ _ rfl AE.out bW rfl NH.out) rfl ?_;exact HE.out
end Fx
namespace Fx
open Go Go.RowKit Go.Lib
open Pk (Bs By iO XZ KC)
structure SkI (s:eF)(w W:World):Prop where
 box:eZ w.heap.size s W
 oa:eN W s.oo s.os
 gL:Below w.heap.size w W
theorem SkI.up {s:eF}{w W X:World}(i:SkI s w W)(h:Below W.heap.size W X):SkI s w X:=⟨i.box.below h,i.oa.below h,dN i.gL h⟩
end Fx
namespace Fx
open Go Go.RowKit Go.Lib
open Pk (fW Bs By PR iO)
def Shift {κ:Type}(P:pO κ):Prop:=∀l d a,P l (d+a)=(P (l.drop d) a).map fun q=>(q.1,d+q.2)
theorem Shift.u (most:Nat):Shift (pU most):=fun l d a=>by
 unfold pU;rw[List.drop_drop]
 cases Pk.rd most (l.drop (d+a)) with
 | none=>rfl
 | some q=>simp[Nat.add_assoc]
theorem Shift.i:Shift pI:=fun l d a=>by
 unfold pI;rw[List.drop_drop]
 cases Pk.rd Pk.pP (l.drop (d+a)) with
 | none=>rfl
 | some q=>simp[Nat.add_assoc]
theorem Shift.seq {κ μ:Type}{P:pO κ}{Q:pO μ}(h:Shift P)(k:Shift Q):Shift (sJ P Q):=fun l d a=>by
 unfold sJ;rw[h l d a]
 cases P (l.drop d) a with
 | none=>rfl
 | some q =>
  obtain ⟨x,b⟩:=q;dsimp only[Option.map_some];rw[k l d b]
  cases Q (l.drop d) b with
  | none=>rfl
  | some r=>rfl
theorem Shift.list {κ:Type}{P:pO κ}(h:Shift P):∀n,Shift (fE P n)
 | 0=>fun l d a=>rfl
 | n+1=>fun l d a=>by
  unfold fE;rw[h l d a]
  cases P (l.drop d) a with
  | none=>rfl
  | some q =>
   obtain ⟨x,b⟩:=q;dsimp only[Option.map_some];rw[Shift.list h n l d b]
   cases fE P n (l.drop d) b with
   | none=>rfl
   | some r=>rfl
theorem Shift.many {κ:Type}{P:pO κ}(most:Nat)(h:Shift P):Shift (fG most P):=fun l d a=>by
 unfold fG;rw[Shift.u most l d a]
 cases pU most (l.drop d) a with
 | none=>rfl
 | some q =>
  obtain ⟨n,b⟩:=q;dsimp only[Option.map_some];exact Shift.list h n.toNat l d b
theorem Shift.map {κ μ:Type}{P:pO κ}(f:κ→μ)(h:Shift P):Shift (QT f P):=fun l d a=>by
 unfold QT;rw[h l d a]
 cases P (l.drop d) a with
 | none=>rfl
 | some q=>rfl
theorem Shift.text:Shift gO:=fun l d a=>by
 unfold gO Pk.CO;rw[List.drop_drop]
 cases Pk.rz false 65536 (l.drop (d+a)) with
 | none=>rfl
 | some q =>
  obtain ⟨n,j⟩:=q;dsimp only;rw[List.drop_drop,cQ,show d+(a+j)=d+a+j by omega,show l.length-d-(a+j)=l.length-(d+a+j) by omega]
  split
  ·simp[Nat.add_assoc]
  ·rfl
theorem JS:Shift QS:=Shift.i.list 16
theorem Ec:Shift oC:=(Shift.u 65535).seq (JS.seq (((Shift.i.list 3).many 64).seq ((((Shift.u 63).seq ((Shift.u 63).seq ((Shift.u 63).seq (Shift.u 4294967295)))).map JN).many 64)))
theorem Kd:Shift MH:=(Shift.u 64).seq ((Shift.u 64).seq (JS.seq (Ec.many 16)))
theorem pQ {ops:Array Oper}{rest:List Oper}{o:Oper}{a:Act}{Q:Exit→Act→World→Prop}{W:World}(hw:Region.wanted o (yielded ops a.tmps)=true)(v:Value)(X:World)(hrun:(execOp a.eval o).run prog W=.ok (.value v) X)
  (h:wpList prog ops Q rest (a.put o.dst v) X):wpList prog ops Q (o::rest) a W :=
 wpList_step fun K hK=>by
  rw[aZ hw];unfold Oper.wp;rw[hrun];exact hK _ _ h
def uO (mk l:List Nat)(w:World)(e:Ending)(w':World):Prop:=Below w.heap.size w w'∧match Cx.opened l with
 | none=>e=.returned (.tuple #[.pointer none,.int .i64 (kK mk l)])
 | some m=>if m.take 4=mk then ∃p o c,e=.returned (.tuple #[.pointer (some ⟨p,0,none⟩),.int .i64 0])∧Pk.ZR o c m p 4 false w'∧fW m 4∧m.length≤c∧c≤9223372036854775807∧(o=none→c=0)∧(0<c→∀a,o=some a→a.spot=none)∧w.heap.size≤p∧(∀b off,o=some ⟨b,off,none⟩→0<m.length→w.heap.size≤b∧b<p) else e=.returned (.tuple #[.pointer none,.int .i64 (kK mk l)])
theorem CL (mk:List Nat)(Mv:By mk)(jH:mk.length=4)(l:List Nat)(o:Option Addr)(c:Nat)(w:World)(hl:By l)(hlen:l.length≤900000)(hc:l.length≤c)(hc2:c≤9223372036854775807)(hb:Bs w o l) :
  Calls prog 45 #[.slice o l.length c,.string (Pk.fR mk)] w (uO mk l w):=by
 have HO:=aA (Cx.Ef l l.length rfl o c w (TS hl) hlen hc hc2 (TT hb));have HMK:=aA Mv;have CG:=aA jH;have yA:=aA (fun m (h:Cx.opened l=some m)=>uU hl h);have UL:=aA hlen;obtain ⟨R,hR⟩:∃R,Cx.opened l=R:=⟨_,rfl⟩;have tA:Hid (Cx.opened l=R):=aA hR;rw[hR] at HO;clear Mv jH hl hlen hc hc2 hb hR
 cases R with
 | none =>
  have HE:Hid (∀w',Below w.heap.size w w'→uO mk l w (.returned (.tuple #[.pointer none,.int .i64 40])) w'):=aA (fun w' hb=>⟨hb,by
   have e2:kK mk l=40:=by unfold kK;rw[tA.out]
   rw[tA.out,e2]⟩)
  go_enter func45,ntmps45;go_wp2_with fail;refine HO.out.mono ?_;rintro e w1 ⟨⟨v1,rfl,ho⟩,hb1⟩;have HB:=aA hb1;rw[show Cx.erO none=40 from rfl];clear hb1 ho HO;go_wp2_with fail;go_ret2;exact HE.out _ HB.out
 | some m =>
  obtain ⟨hby,jH⟩:=yA.out m tA.out;go_enter func45,ntmps45;go_wp2_with fail;refine HO.out.mono ?_;rintro e w1 ⟨⟨v1,rfl,ho⟩,hb1⟩;rw[show Cx.erO (some m)=0 from rfl];have Sg:Pk.Own w1 w.heap.size v1 m:=WL ho;obtain ⟨o1,c1,rfl,mJ,hc1,hc2,oF,hsp⟩:=Sg.open;have HB:=aA hb1;have hspot:0<c1→∀a,o1=some a→a.spot=none:=fun _ a ha=>by
   obtain ⟨g,hg,_⟩:=hsp a ha;rw[hg]
  by_cases h4:m.length<4
  ·have HE:Hid (∀w',Below w.heap.size w w'→uO mk l w (.returned (.tuple #[.pointer none,.int .i64 70])) w'):=aA (fun w' hb=>⟨hb,by
    have hne:¬ m.take 4=mk:=fun e=>by
     have:=congrArg List.length e;rw[bT,CG.out] at this;omega
    have e2:kK mk l=70:=by unfold kK;rw[tA.out];dsimp only;rw[CG.out,bF hne]
    rw[tA.out,e2];dsimp only;rw[bF hne]⟩)
   have H4:Hid (decide ((m.length:Int)<4)=true):=aA (bA (by omega));clear h4 hby jH mJ hc1 hc2 oF hsp hspot ho Sg hb1 HO;generalize m.length=nn at *;go_wp2_with (with_reducible refine dQ (some 17) rfl ?_;refine aA ?_;refine fY rfl (.bool true) w1 (by rw[←H4.out];kernel_rfl) ?_)
   go_ret2;exact HE.out _ HB.out
  ·have hcut:Bs w1 (iO o1 c1 0) (m.take 4):=by
    have:=mJ.cut (l:=0) (h:=4) (cK _) (by omega) hc1
    rwa [List.drop_zero] at this
   have htl:(m.take 4).length=4:=by rw[bT];omega
   have hcv:=Pk.vA c1 htl hcut;have JC:=aA hcv;have HLO:=aA (fun (o:Oper) (a:Act) (ho:o.op=.slice 31 (.tmp 19) none (some (.const (.int .i64 4))) none) (hx:a.eval (.tmp 19)=.slice o1 m.length c1)=>Gb (W:=w1) (.tmp 19) (.const (.int .i64 4)) ho o1 m.length c1 4 4 rfl hx rfl (by omega) oF hspot);have H4:Hid (decide ((m.length:Int)<4)=false):=aA (aN (by omega));have HEQ:=aA (TJ (fun x hx=>hby x (cI hx)) HMK.out:((Pk.fR (m.take 4)).toList == (Pk.fR mk).toList)=decide (m.take 4=mk));have UH:=aA hb1.size;by_cases hk:m.take 4=mk
   ·have H5:Hid ((!((Pk.fR (m.take 4)).toList == (Pk.fR mk).toList))=false):=aA (by rw[HEQ.out,bA hk];rfl)
    have HF:Hid (uO mk l w (.returned (.tuple #[.pointer (some ⟨w1.heap.size,0,none⟩),.int .i64 0])) (w1.alloc (.cells #[.slice o1 m.length c1,.int .i64 4,.bool false] 106))):=aA ⟨dN hb1 ((aJ _ _).alloc (aB _) _),by
     rw[tA.out];dsimp only;rw[aZ hk];exact ⟨_,o1,c1,rfl,⟨aG _ _,mJ.below ((aJ _ _).alloc (aB _) _)⟩,⟨hby,by have:=UL.out;omega,by omega⟩,hc1,hc2,oF,hspot,UH.out,fun b off e hm=>by
      obtain ⟨g,hg,h2⟩:=hsp _ e
      cases hg;obtain ⟨b',off',e',hc⟩:=mJ 0 hm;rw[e] at e'
      cases e'
      exact ⟨by omega,BU hc⟩⟩⟩
    clear hk hcv HEQ hcut htl h4 hby jH mJ hc1 hc2 oF hsp hspot ho Sg hb1 HO;obtain ⟨sa,cu⟩:∃sa,Pk.fR (m.take 4)=sa:=⟨_,rfl⟩;rw[cu] at JC H5;clear cu;generalize m.length=nn at HLO H4 HF;go_wp2_with (first|(with_reducible refine dQ (some 17) rfl ?_;refine aA ?_;refine fY rfl (.bool false) w1 (by rw[←H4.out];kernel_rfl) ?_)|(with_reducible refine dQ (some 20) rfl ?_;refine aA ?_;refine pQ rfl (.slice (iO o1 c1 0) 4 c1) w1 (HLO.out _ _ rfl rfl) ?_)|(rw[JC.out])|(with_reducible refine dQ (some 23) rfl ?_;refine aA ?_;refine pQ rfl (.bool false) w1 (by rw[←H5.out];kernel_rfl) ?_))
    go_ret2;exact HF.out
   ·have H5:Hid ((!((Pk.fR (m.take 4)).toList == (Pk.fR mk).toList))=true):=aA (by rw[HEQ.out,aN hk];rfl)
    have HE:Hid (∀w',Below w.heap.size w w'→uO mk l w (.returned (.tuple #[.pointer none,.int .i64 70])) w'):=aA (fun w' hb=>⟨hb,by
     have e2:kK mk l=70:=by unfold kK;rw[tA.out];dsimp only;rw[CG.out,bF hk]
     rw[tA.out,e2];dsimp only;rw[bF hk]⟩)
    clear hk hcv HEQ hcut htl h4 hby jH mJ hc1 hc2 oF hsp hspot ho Sg hb1 HO;obtain ⟨sa,cu⟩:∃sa,Pk.fR (m.take 4)=sa:=⟨_,rfl⟩;rw[cu] at JC H5;clear cu;generalize m.length=nn at *;go_wp2_with (first|(with_reducible refine dQ (some 17) rfl ?_;refine aA ?_;refine fY rfl (.bool false) w1 (by rw[←H4.out];kernel_rfl) ?_)|(with_reducible refine dQ (some 20) rfl ?_;refine aA ?_;refine pQ rfl (.slice (iO o1 c1 0) 4 c1) w1 (HLO.out _ _ rfl rfl) ?_)|(rw[JC.out])|(with_reducible refine dQ (some 23) rfl ?_;refine aA ?_;refine pQ rfl (.bool true) w1 (by rw[←H5.out];kernel_rfl) ?_))
    go_ret2;exact HE.out _ HB.out
end Fx
namespace Fx
open Go Go.RowKit
open Pk (fW Bs By)
structure OY (o:Option Addr)(c:Nat)(l:List Nat)(p g b:Nat)(lo:Bool)(f:Int×Int×List Int)(v:Value)(w W:World):Prop where
 res:W.heap[w.heap.size]?=some (.cells #[.int .i64 0,.int .i64 0,.int .i64 0,.int .i64 0,.int .i64 0,.int .i64 0,.int .i64 0,.int .i64 0,.int .i64 0,.int .i64 0,.int .i64 0,.int .i64 0,.int .i64 0,.int .i64 0,.int .i64 0,.int .i64 0,.int .i64 0,.int .i64 0,.slice none 0 0] 28 (0,0))
 box:W.heap[g]?=some (.cells (pX f v).toArray 28 (0,0))
 rd:Pk.ZR o c l p b lo W
 le:b≤l.length
 below:Below w.heap.size w W
theorem pC {B C:Nat}{W X:World}(hc:C≤B)(h:Below B W X):Below C W X:=⟨h.1,h.2,h.3,h.4,fun k hk=>h.5 k (aP hk hc)⟩
theorem wM {C:Nat}{W X Y:World}(h:Below C W X)(k:Below C X Y):Below C W Y:=⟨k.1.trans h.1,k.2.trans h.2,k.3.trans h.3,bH h.4 k.4,fun b hb=>(k.5 b hb).trans (h.5 b hb)⟩
section
variable {o:Option Addr} {c:Nat} {l:List Nat} {p g b b2:Nat} {lo lo2:Bool} {f f2:Int×Int×List Int} {v v2:Value} {w W X:World}
theorem OY.step (hw:w.heap.size<p)(hg:p<g)(i:OY o c l p g b lo f v w W)(hx:W.grownBy X (some p))(hr:Pk.ZR o c l p b2 lo2 X)(hl:b2≤l.length):OY o c l p g b2 lo2 f v w X:=by
 have keep:∀ {k:Nat} {ob:Obj},k≠p→W.heap[k]?=some ob→X.heap[k]?=some ob:=fun hne h=>by
  rw[hx.block _ (aC.1 h).1 (fun e=>hne (bK e))];exact h
 exact ⟨keep (by omega) i.res,keep (by omega) i.box,hr,hl,gZ (aB _) i.below hx (fun k e=>by cases e;omega)⟩
theorem OY.put (hw:w.heap.size<p)(hg:p<g)(iE:∀b off,o=some ⟨b,off,none⟩→0<l.length→b<g)(i:OY o c l p g b lo f v w W)(hb:Below g W X)(EM:X.heap[g]?=some (.cells (pX f2 v2).toArray 28 (0,0))):OY o c l p g b lo f2 v2 w X :=
 ⟨by rw[hb.block _ (by omega)];exact i.res,EM,uM i.rd hg iE hb,i.le,wM i.below (pC (by omega) hb)⟩
theorem OY.cell (i:OY o c l p g b lo f v w W){j:Nat}{u:Value}(h:(pX f v)[j]?=some u):W.cell? ⟨g,j,none⟩=some u∧W.frozen? ⟨g,j,none⟩=false :=
 ⟨by rw[aD _ _ _ _ _ _ i.box];simpa using h,dJ i.box⟩
theorem OY.set {j:Nat}{u:Value}(hw:w.heap.size<p)(hg:p<g)(iE:∀b off,o=some ⟨b,off,none⟩→0<l.length→b<g)(i:OY o c l p g b lo f v w W)(h:(pX f v).toArray.setIfInBounds j u=(pX f2 v2).toArray):OY o c l p g b lo f2 v2 w (W.setCell ⟨g,j,none⟩ u):=by
 refine i.put hw hg iE (Below.setCell (p:=⟨g,j,none⟩) ⟨rfl,rfl,rfl,aB _,fun _ _=>rfl⟩ (aB _) _) ?_;rw[aM _ _ j _ _ u i.box,h]
theorem OY.up (h:Below W.heap.size W X)(i:OY o c l p g b lo f v w W):OY o c l p g b lo f v w X :=
 ⟨dL h i.res,dL h i.box,i.rd.below h,i.le,dN i.below h⟩
structure Ha (o:Option Addr)(c:Nat)(l:List Nat)(p g b:Nat)(lo:Bool)(f:Int×Int×List Int)(v:Value)(zs:List eE)(w W:World):Prop where
 base:OY o c l p g b lo f v w W
 own:fK 73 19 dP W (g+1) v zs
 each:∀x∈zs,gV w.heap.size x W
variable {zs:List eE}
theorem Ha.lt (i:Ha o c l p g b lo f v zs w W):g<W.heap.size:=(aC.1 i.base.box).1
theorem Ha.step (hw:w.heap.size<p)(hg:p<g)(i:Ha o c l p g b lo f v zs w W)(hx:W.grownBy X (some p))(hr:Pk.ZR o c l p b2 lo2 X)(hl:b2≤l.length):Ha o c l p g b2 lo2 f v zs w X :=
 ⟨i.base.step hw hg hx hr hl,i.own.grown hx (fun k hk e=>by cases hk;have:=i.own.blk _ e;omega),fun x hm=>(i.each x hm).rows (Rows.iL hx (fun k e=>by cases e;exact ⟨_,i.base.rd.row⟩) (by decide)) (Rows.iL hx (fun k e=>by cases e;exact ⟨_,i.base.rd.row⟩) (by decide))⟩
theorem Ha.up (h:Below W.heap.size W X)(i:Ha o c l p g b lo f v zs w W):Ha o c l p g b lo f v zs w X :=
 ⟨i.base.up h,i.own.below h,fun x hm=>(i.each x hm).rows (Rows.of_below h) (Rows.of_below h)⟩
theorem Ha.app {x:eE}{ow:Option Addr}{cw:Nat}(hw:w.heap.size<p)(hg:p<g)(iE:∀b off,o=some ⟨b,off,none⟩→0<l.length→b<g)(hm:f.2.2.length=16)(i:Ha o c l p g b lo f v zs w W)(ho:fK 73 19 dP X (g+1) (.slice ow (zs++[x]).length cw) (zs++[x]))(hx:W.grownBy X v.ownBlock)(hf:gV w.heap.size x W) :
  X.cell? ⟨g,18,none⟩=some v∧X.frozen? ⟨g,18,none⟩=false∧Ha o c l p g b lo f (.slice ow (zs++[x]).length cw) (zs++[x]) w (X.setCell ⟨g,18,none⟩ (.slice ow (zs++[x]).length cw)):=by
 have hb:=i.own.blk;have yK:Below (g+1) W X:=(aJ _ _).grown hx (by have:=i.lt;omega) (fun k hk=>hb k hk);have hlow2:Below g W X:=pC (by omega) yK;have i2:OY o c l p g b lo f v w X:=i.base.put hw hg iE hlow2 (by rw[yK.block _ (by omega)];exact i.base.box);have vN:∀ {t:TypeId},t≠73→Rows t W X:=fun hne=>Rows.iL hx (fun k e=>by obtain ⟨cc,hc⟩:=i.own.row k e;exact ⟨cc,hc⟩) hne
 have hrs:∀ {t:TypeId},t≠28→Rows t X (X.setCell ⟨g,18,none⟩ (.slice ow (zs++[x]).length cw)):=fun hne=>Rows.lT i2.box hne
 obtain ⟨q1,q2⟩:=i2.cell (j:=18) (u:=v) (by simp[pX,hm]);refine ⟨q1,q2,i2.set hw hg iE (Ba hm _ _),ho.kU (fun e=>by have:=ho.blk _ e;omega),fun z hz=>?_⟩;have hz2:gV w.heap.size z W:=by
  rcases bS.1 hz with hz|hz
  ·exact i.each z hz
  ·simp at hz
   subst hz;exact hf
 exact (hz2.rows (vN (by decide)) (vN (by decide))).rows (hrs (by decide)) (hrs (by decide))
end
theorem uO.use {l:List Nat}{w w':World}{e:Ending}(h:uO fS l w e w'):Below w.heap.size w w'∧match behind fS l with
  | none=>e=.returned (.tuple #[.pointer none,.int .i64 (kK fS l)])
  | some r=>∃m p o c,m.drop 4=r∧r.length+4=m.length∧e=.returned (.tuple #[.pointer (some ⟨p,0,none⟩),.int .i64 0])∧Pk.ZR o c m p 4 false w'∧fW m 4∧w.heap.size≤p∧(∀b off,o=some ⟨b,off,none⟩→0<m.length→b<p):=by
 obtain ⟨hb,h⟩:=h;refine ⟨hb,?_⟩;unfold behind
 cases ho:Cx.opened l with
 | none =>
  rw[ho] at h;exact h
 | some m =>
  rw[ho] at h;dsimp only at h ⊢;rw[show fS.length=4 from rfl];by_cases hm:m.take 4=fS
  ·rw[aZ hm] at h ⊢
   obtain ⟨p,oo,cc,he,hr,hk,_,_,_,_,hp,hq⟩:=h;exact ⟨m,p,oo,cc,rfl,by rw[cQ];have:=hk.at';omega,he,hr,hk,hp,fun b off e hl=>(hq b off e hl).2⟩
  ·rw[bF hm] at h ⊢
   exact h
theorem Ki {m r:List Nat}(h:m.drop 4=r):MH m 4=(MH r 0).map fun q=>(q.1,4+q.2):=by
 have:=Kd m 4 0
 rwa [h] at this
theorem Pb {m r:List Nat}(hr:m.drop 4=r)(hlen:r.length+4=m.length){f:Int×Int×List Int}{ks:List (Int×List Int×List (List Int)×List gB)}{a1 a2 a3 a4:Nat}{lo1 lo2 lo3 Ad:Bool}(h1:eP false (pU 64) m 4=opt lo1 (f.1,a1))(h2:eP lo1 (pU 64) m a1=opt lo2 (f.2.1,a2))(h3:eP lo2 QS m a2=opt lo3 (f.2.2,a3))(h4:eP lo3 (fG 16 oC) m a3=opt Ad (ks,a4))(hl:a4≤m.length) :
  (Pk.pB Ad m.length a4=0→Ad=false∧MH r 0=some ((f.1,f.2.1,f.2.2,ks),r.length))∧(Pk.pB Ad m.length a4≠0→∀k b,MH r 0=some (k,b)→b≠r.length):=by
 have h5:eP false MH m 4=opt Ad ((f.1,f.2.1,f.2.2,ks),a4):=fZ h1 (fZ h2 (fZ h3 h4));have e1:eP false MH m 4=MH m 4:=rfl;rw[e1,Ki hr] at h5;unfold Pk.pB
 cases Ad
 ·simp only[opt,bD,if_false,false_or] at h5 ⊢
  rw[Option.map_eq_some_iff] at h5;obtain ⟨⟨k,b⟩,hs,e⟩:=h5;simp only[Prod.mk.injEq] at e;obtain ⟨rfl,rfl⟩:=e;refine ⟨fun h=>⟨trivial,?_⟩,fun h k2 b2 hk=>?_⟩
  ·split at h
   ·cases h
   ·rw[hs,show b=r.length by omega]
  ·rw[hs] at hk
   cases hk
   split at h
   ·omega
   ·exact absurd rfl h
 ·simp only[opt,if_true,true_or] at h5 ⊢
  refine ⟨fun h=>(by cases h),fun _ k b hk=>?_⟩;rw[hk] at h5
  cases h5
end Fx
end Go.Proofs.YtbbhmhihpdmoiaaGreat
