import Derived.Test.YtbbhmhihpdmoiaaGreatJf19
set_option linter.unusedVariables false
set_option linter.unusedSimpArgs false
set_option maxRecDepth 100000
set_option maxHeartbeats 32000000
namespace Go.Proofs.YtbbhmhihpdmoiaaGreat
open Go.Proofs.Tryz
namespace Fx
open Go Go.RowKit Go.Lib
open Pk (Bs By PW rU Turn)
def nO (m:List Nat):List Nat:=fU (m.length:Int)++m
def NU (k:lA):List Nat:=nO (jO k)
def oZ (ks:List lA):List Nat:=fU (ks.length:Int)++ks.flatMap NU
def FL (ks:List lA):List Nat:=iK (fQ++oZ ks)
def mL (xs:List eF):Option (List Nat)×Int:=if 100<xs.length then (none,2) else if xs.all mK=true then (some (FL (xs.map eQ)),0) else (none,60)
def oA (xs:List eF)(w:World)(e:Ending)(w':World):Prop:=(∃v,e=.returned (.tuple #[v,.int .i64 (mL xs).2])∧Pk.Own w' w.heap.size v ((mL xs).1.getD []))∧Below w.heap.size w w'
theorem Dh (p:Nat)(o:Option Addr)(c:Nat)(m l:List Nat)(W0 w:World)(hl:l.length≤90000000)(hm:m.length≤65536)(hc:o=none→c=0)(hb:Bs w o m)(yK:∀b off,o=some ⟨b,off,none⟩→W0.heap.size≤b∧b<w.heap.size)(h:wQ p l W0)(hB:Below W0.heap.size W0 w) :
  Calls prog 53 #[.pointer (some ⟨p,0,none⟩),.slice o m.length c,.int .i64 65536] w (mM p (l++nO m) w):=by
 obtain ⟨v,h⟩:=h;have hp:=h.lt;have hv:∀k,v.ownBlock=some k→k<W0.heap.size:=fun k hk=>by
  obtain ⟨_,cur,hcur⟩:=MJ h.own k hk;exact (aC.1 hcur).1
 have hw:=h.below hB;have:=Pk.Ei (p+1) p o c m 65536 v l false w hw.lt hl (by omega) hc hb (fun b off e _=>⟨by have:=(yK b off e).1;omega,fun e2=>by have:=hv b e2;have:=(yK b off e).1;omega,(yK b off e).2⟩) hw;have e:Pk.qF (m.length:Int) 65536=true:=bA ⟨by omega,by omega⟩;rw[e] at this;exact this.mono fun e w' hc=>mM.of hw hc
theorem Fz (m:List Nat):(nO m).length≤m.length+11:=by
 unfold nO;rw[aI];have:=eT (m.length:Int);omega
theorem XP {z:Int}(h0:0≤z)(h1:z≤63):(fU z).length=1:=by
 unfold fU;rw[Pk.jX (by omega)];rfl
theorem Fy {t:gB}(h:Gk t):(pA t).length≤14:=by
 unfold pA;simp only[aI];have:=XP h.1.1 h.1.2;have:=XP h.2.1.1 h.2.1.2;have:=XP h.2.2.1.1 h.2.2.1.2;have:=eT t.col;omega
theorem Ga {x:Int×List Int×List (List Int)×List gB}(h:XS x):(lZ x).length≤3300:=by
 unfold lZ mA;simp only[aI];have h1:=eT x.1;have h2:=gA x.2.1;have h2':=h.2.1.1;have h3:=eT (x.2.2.1.length:Int);have h4:=jQ (f:=eW) (c:=33) x.2.2.1 (fun y hy=>by
  have:=gA y;have h3:y.length=3:=(h.2.2.1.2 y hy).1;omega)
 have h5:=eT (x.2.2.2.length:Int);have h6:=jQ (f:=pA) (c:=14) x.2.2.2 (fun y hy=>Fy (h.2.2.2.2 y hy));have h7:=h.2.2.1.1;have h8:=h.2.2.2.1;omega
theorem Ov {k:lA}(h:Gl k):(KR k).length≤53200:=by
 unfold KR mA;simp only[aI];have h1:=eT k.1;have h2:=eT k.2.1;have h3:=gA k.2.2.1;have jv:=h.2.2.1.1;have h4:=eT (k.2.2.2.length:Int);have h5:=jQ (f:=lZ) (c:=3300) k.2.2.2 (fun y hy=>Ga (h.2.2.2.2 y hy));have h6:=h.2.2.2.1;omega
theorem sO {k:lA}(h:Gl k):(jO k).length≤53208:=by
 have h2:=Ov h;unfold jO iK;rw[aI,xI,aI];have : fS.length=4:=rfl;omega
theorem Xe {k:lA}(h:Gl k):By (NU k):=fun x hx=>by
 unfold NU nO at hx
 rcases bS.1 hx with hx|hx
 ·exact Pk.gY (by have:=sO h;omega) x hx
 ·exact (Px h).1 x hx
theorem BP {l:List lA}(h:∀k∈l,Gl k):By (l.flatMap NU):=fun x hx=>by
 obtain ⟨k,hk,hx⟩:=List.mem_flatMap.1 hx;exact Xe (h k hk) x hx
theorem uE {l:List lA}(h:∀k∈l,Gl k):(l.flatMap NU).length≤53219*l.length:=by
 induction l with
 | nil=>simp
 | cons k l ih =>
  rw[List.flatMap_cons,aI,bO];have h1:=ih (fun x hx=>h x (List.mem_cons_of_mem _ hx));have h2:(NU k).length≤53219:=by
   have:=Fz (jO k);have:=sO (h k (List.mem_cons_self ..));unfold NU;omega
  omega
structure Yf (p:Nat)(l:List Nat)(w W:World):Prop where
 wr:wQ p l W
 gL:Below p w W
 lt:p<W.heap.size
theorem Yf.up {p:Nat}{l:List Nat}{w W X:World}(i:Yf p l w W)(h:Below W.heap.size W X):Yf p l w X :=
 ⟨i.wr.below h,i.gL.trans ⟨h.os,h.tape,h.output,h.size,fun k hk=>h.block k (by have:=i.lt;omega)⟩,aP i.lt h.size⟩
theorem Yf.post {p:Nat}{l l':List Nat}{w W X:World}{e:Ending}(i:Yf p l w W)(h:mM p l' W e X):Yf p l' w X :=
 ⟨h.2.1,i.gL.trans h.2.2.below,h.2.1.lt⟩
def rG (n:Nat)(xs:List eF)(k:Nat):List Nat:=fU (n:Int)++((xs.take k).map eQ).flatMap NU
theorem RJ {n:Nat}{xs:List eF}{k:Nat}{x:eF}(h:xs[k]?=some x):rG n xs (k+1)=rG n xs k++nO (jO (eQ x)):=by
 unfold rG;rw[bX,h,Option.toList_some,List.map_append,List.flatMap_append,←bM];simp[NU]
theorem Er (xs:List eF)(o:Option Addr)(c:Nat)(w:World)(hc:pJ o xs.length c)(h:pE w o xs)(hm:xs.length≤100→xs.all mK=true→(oZ (xs.map eQ)).length≤900000) :
  Calls prog 22 #[.slice o xs.length c] w (oA xs w):=by
 obtain ⟨n,hn⟩:∃n,xs.length=n:=⟨_,rfl⟩;have HN:=aA hn;have hc1:=hc.1;by_cases h1:100<n
 ·have t1:(100:Int)<(n:Int):=by omega
  have HE:Hid (oA xs w (.returned (.tuple #[.slice none 0 0,.int .i64 2])) w):=aA (by
   have e:mL xs=(none,2):=by unfold mL;rw[aZ (by omega)]
   unfold oA;rw[e];exact ⟨⟨_,rfl,bV _ _ _ _⟩,aJ _ _⟩)
  rw[hn] at hc1 ⊢;clear h hc hm hn h1;go_enter func22,ntmps22;go_wp2_with fail;go_ret2;exact HE.out
 ·have t1:¬ (100:Int)<(n:Int):=by omega
  have n100:n≤100:=by omega
  have n0:(0:Int)≤(n:Int):=by omega
  have n1:(n:Int)≤100:=by omega
  have qO:Hid (∀X,xs.all mK=false→Below w.heap.size w X→oA xs w (.returned (.tuple #[.slice none 0 0,.int .i64 60])) X):=aA (fun X ha hb=>by
   have e:mL xs=(none,60):=by unfold mL;rw[bF (by omega),bF (by rw[ha];decide)]
   unfold oA;rw[e];exact ⟨⟨_,rfl,bV _ _ _ _⟩,hb⟩)
  have xV:Hid (∀X v,xs.all mK=true→Pk.Own X w.heap.size v (iK (fQ++rG n xs n))→Below w.heap.size w X→oA xs w (.returned (.tuple #[v,.int .i64 0])) X):=aA (fun X v ha ho hb=>by
   have e:mL xs=(some (FL (xs.map eQ)),0):=by unfold mL;rw[bF (by omega),aZ ha]
   unfold oA;rw[e];refine ⟨⟨_,rfl,?_⟩,hb⟩;have : rG n xs n=oZ (xs.map eQ):=by unfold rG oZ;rw[bB (by omega),aT,hn]
   rw[this] at ho;exact ho)
  have CG:Hid (xs.all mK=true→(rG n xs n).length≤900000):=aA (fun ha=>by
   have:=hm (by omega) ha
   rwa [show oZ (xs.map eQ)=rG n xs n by unfold rG oZ;rw[bB (by omega),aT,hn]] at this)
  have Ss:=aA h;have Te:Hid (∀k,(xs.take k).all mK=true→∀z∈(xs.take k).map eQ,Gl z):=aA (fun k ha z hz=>by
   obtain ⟨s,hs,rfl⟩:=List.mem_map.1 hz;obtain ⟨i,hi⟩:=List.getElem?_of_mem (cI hs);obtain ⟨b,off,_,hat⟩:=h i s hi;exact vZ hat.wf hat.objs (bU.1 ha s hs))
  have HFU:=aA (eT (n:Int));rw[hn] at hc1 ⊢;clear h hc hm hn h1;go_enter func22,ntmps22;go_wp2_with fail;refine (Pk.EA _).mono ?_;rintro e w2 ⟨rfl,hpw,hw2⟩;have hb2:Below w.heap.size w w2:=by rw[hw2];exact (aJ _ _).alloc (aB _) _
  have YM:Hid (Yf w.heap.size [] w w2):=aA ⟨⟨_,hpw⟩,hb2,hpw.lt⟩;have HSM:=aA (iR w.heap.size (n:Int) 100 [] w2 (by omega) (by omega) (by omega) (by simp) ⟨_,hpw⟩);clear hpw hw2 hb2;go_wp2_with fail;refine HSM.out.mono ?_;rintro e w3 xX;obtain rfl:=xX.1;have GX:=aA (YM.out.post xX);clear xX HSM YM;go_wp2_with fail;go_loopg[19] n (fun g s19 wx=>∃k:Nat,g=n-k∧s19=.int .i64 (k:Int)∧k≤n∧(xs.take k).all mK=true∧Yf w.heap.size (rG n xs k) w wx)
  case atStart=>exact ⟨0,rfl,rfl,by omega,rfl,by have:=GX.out;unfold rG;simpa using this⟩
  case round =>
   obtain ⟨k,rfl,rfl,hk,ha,hj⟩:=hrel;have HA:=aA ha;have HJ:=aA hj;clear ha hj GX;have k0:(0:Int)≤(k:Int):=by omega
   have HL9:Hid ((rG n xs k).length≤90000000):=aA (by
    have h1:=uE (Te.out k HA.out);have h2:((xs.take k).map eQ).length≤100:=by rw[aT,bT];omega
    have h3:=HFU.out;unfold rG;rw[aI];omega)
   by_cases pK:k<n
   ·have t2:(k:Int)<(n:Int):=by omega
    obtain ⟨x,hx⟩:∃x,xs[k]?=some x:=⟨_,aF (by rw[HN.out];exact pK)⟩;obtain ⟨b,off,rfl,lX⟩:=Ss.out k x hx;have hat:=lX.below HJ.out.gL;have HX:=aA hat;have hi:=aA (oU hat.wf);obtain ⟨V1,hV1⟩:∃V,wr.alloc (.cells #[.int .i64 0,.int .i64 0,.int .i64 0,.int .i64 0,.int .i64 0,.int .i64 0,.int .i64 0,.int .i64 0,.int .i64 0,.int .i64 0,.int .i64 0,.int .i64 0,.int .i64 0,.int .i64 0,.int .i64 0,.int .i64 0,.int .i64 0,.int .i64 0,.slice none 0 0] 28)=V:=⟨_,rfl⟩;obtain ⟨V2,hV2⟩:∃V,V1.setRow wr.heap.size (eU x)=V:=⟨_,rfl⟩;have r1:dI 28 wr.heap.size #[.int .i64 0,.int .i64 0,.int .i64 0,.int .i64 0,.int .i64 0,.int .i64 0,.int .i64 0,.int .i64 0,.int .i64 0,.int .i64 0,.int .i64 0,.int .i64 0,.int .i64 0,.int .i64 0,.int .i64 0,.int .i64 0,.int .i64 0,.int .i64 0,.slice none 0 0] V1:=by rw[←hV1];exact dI.new _ _ _
    have r2:V2.heap[wr.heap.size]?=some (.cells (eU x) 28 (0,0)):=by rw[←hV2];exact setRow_heap _ _ _ _ _ _ r1
    have b2:Below wr.heap.size wr V2:=by rw[←hV2,←hV1];exact Below.row ((aJ _ _).alloc (aB _) _) (aB _) _
    have Hj:=aA r1;have ni:Hid (V2.rangeAt wr.heap.size 0 (fP x)):=aA (fun j u hj=>by rw[bE];exact (show eZ wr.heap.size x V2 from r2).at.trans hj);have HJV:=aA (HJ.out.up b2);have hatV:=hat.below b2;have pG:=aA (show Calls prog 12 #[.agg (fP x).toArray] V2 (UE (qI x) V2) from QO x V2 hatV.wf hatV.objs);have Nj:=aA (JR x hat.wf (.slice x.oo x.os.length x.oc));have Rz:=aA (show 19=(eU x).size from (sH hat.wf (.slice x.oo x.os.length x.oc)).symm);have Sd:=aA (show (eU x).all (·.oneCell')=true from nA x (.slice x.oo x.os.length x.oc) rfl);have vF:=aA hV1;have oM:=aA hV2;have Td:=aA (fun (ho:mK x=true)=>vZ hat.wf hat.objs ho);have Yn:=aA (RJ (n:=n) hx);have HAS:Hid ((xs.take (k+1)).all mK=mK x):=aA (by rw[bX,hx,List.all_append,HA.out];simp);have HNA:Hid (mK x=false→xs.all mK=false):=aA (fun h0=>by
     rw[List.all_eq_false];exact ⟨x,aX hx,by rw[h0];decide⟩)
    clear r1 r2 b2 lX hat hatV hx hV1 hV2
    cases jS:mK x with
    | false =>
     have he:qI x=none:=by unfold qI;rw[jS];rfl
     rw[he] at pG;unfold UE erE at pG;simp only[Option.isSome_none,bD,if_false,Option.getD_none] at pG;have mI:=aA (qO.out · (HNA.out jS));clear jS he;go_wp2_with (first|(rw[vF.out])|(rw[oM.out])|(with_reducible refine dQ (some 22) rfl ?_;refine aA ?_;refine wpList_load_mid rfl 28 (.tmp 21) rfl b (off+k*19) rfl (fP x) _ HX.out.cells aW rfl hi.out ?_)|(refine dG rfl 28 (.tmp 6) (.tmp 22) rfl wr.heap.size _ _ (eU x) rfl rfl Hj.out Nj.out Rz.out Sd.out ?_)|(with_reducible refine dQ (some 24) rfl ?_;refine aA ?_;refine wpList_load_mid rfl 28 (.tmp 6) rfl wr.heap.size 0 rfl (fP x) _ ni.out aW rfl hi.out ?_))
     refine pG.out.mono ?_;rintro e w4 ⟨⟨v4,rfl,_⟩,hb4⟩;have HR:=aA (mI.out w4 ((HJV.out.up hb4).gL));clear hb4 pG;go_wp2_with fail;go_ret2;exact HR.out
    | true =>
     obtain ⟨L,hL⟩:∃L,jO (eQ x)=L:=⟨_,rfl⟩;have he:qI x=some L:=by unfold qI;rw[jS,←hL];rfl
     have hLl:L.length≤65536:=by have:=sO (Td.out jS);rw[←hL];omega
     rw[he] at pG;rw[hL] at Yn;rw[jS] at HAS;unfold UE erE at pG;simp only[Option.isSome_some,if_true,Option.getD_some] at pG;have HLL:=aA hLl;clear jS he hL hLl;go_wp2_with (first|(rw[vF.out])|(rw[oM.out])|(with_reducible refine dQ (some 22) rfl ?_;refine aA ?_;refine wpList_load_mid rfl 28 (.tmp 21) rfl b (off+k*19) rfl (fP x) _ HX.out.cells aW rfl hi.out ?_)|(refine dG rfl 28 (.tmp 6) (.tmp 22) rfl wr.heap.size _ _ (eU x) rfl rfl Hj.out Nj.out Rz.out Sd.out ?_)|(with_reducible refine dQ (some 24) rfl ?_;refine aA ?_;refine wpList_load_mid rfl 28 (.tmp 6) rfl wr.heap.size 0 rfl (fP x) _ ni.out aW rfl hi.out ?_))
     refine pG.out.mono ?_;rintro e w4 ⟨⟨v4,rfl,vO⟩,hb4⟩;obtain ⟨o4,c4,rfl,Nx,Wo,hc4m,Vz,Vy⟩:=vO.open;have UW:=aA (Dh w.heap.size o4 c4 L (rG n xs k) V2 w4 HL9.out HLL.out Vz Nx (fun b' off' e'=>by
      obtain ⟨g,hg,h1,h2,_⟩:=Vy _ e'
      cases hg;exact ⟨h1,h2⟩) HJV.out.wr hb4)
     have JA:=aA (HJV.out.up hb4);obtain ⟨m4,NF⟩:∃m,L.length=m:=⟨_,rfl⟩;rw[NF] at UW Wo ⊢;clear vO Nx hc4m Vz Vy hb4 pG HJV HJ NF;go_wp2_with fail;refine UW.out.mono ?_;rintro e w5 SF;obtain rfl:=SF.1;have sX:Hid (Yf w.heap.size (rG n xs (k+1)) w w5):=aA (by
      rw[Yn.out];exact JA.out.post SF)
     clear SF UW;go_wp2_with fail;go_roundg (n-(k+1))
     case measure=>omega
     case rel=>exact ⟨k+1,rfl,by go_num,by omega,HAS.out,sX.out⟩
   ·obtain rfl:k=n:=by omega
    have t2:¬ (k:Int)<(k:Int):=by omega
    have hall:xs.all mK=true:=by have:=HA.out;rwa [bB (by rw[HN.out];omega)] at this
    have hby:By (rG k xs k):=by
     unfold rG;intro z hz
     rcases bS.1 hz with hz|hz
     ·exact Pk.gY (by omega) z hz
     ·exact BP (Te.out k HA.out) z hz
    have h0:0<(rG k xs k).length:=by
     unfold rG;rw[aI];have : 1≤(fU (k:Int)).length:=(Pk.gP _).1;omega
    have oW:=zB fQ xG w.heap.size (rG k xs k) wr hby h0 (by have:=CG.out hall;show 4+_≤_;omega) HJ.out.wr;rw[show Pk.fR fQ=⟨#[109,117,108,102]⟩ from rfl] at oW;have UJ:=aA oW;have HG:=aA (fun X v=>xV.out X v hall);clear oW hall hby h0;go_wp2_with fail;refine UJ.out.mono ?_;rintro e w6 ⟨⟨v6,rfl,gy⟩,KL⟩;have HR:=aA (HG.out w6 v6 (gy.mono (by have:=HJ.out.lt;omega)) ((HJ.out.up KL).gL));clear gy KL UJ;go_wp2_with fail;go_ret2;exact HR.out
end Fx
namespace Fx
open Go Go.RowKit Go.Lib
open Pk (form fold)
def Ch (p:Nat)(l:List Nat)(W:World):Prop:=Pk.ZW 0 p l false W
def vU (p:Nat)(l:List Nat)(w:World)(e:Ending)(w':World):Prop:=e=.returned undef∧Ch p l w'∧w.grownBy w' (some p)
theorem LH (p:Nat)(z:Int)(l:List Nat)(w:World)(hz:Num z)(hl:l.length≤100000000)(h:Ch p l w):Calls prog 37 #[.pointer (some ⟨p,0,none⟩),.int .i64 z] w (vU p (l++fI z) w) :=
 Pk.Iz 0 p z l false w (cK _) hz.1 hz.2 hl h
theorem uf (p n:Nat)(l:List Nat)(w:World)(hn:n<18446744073709551616)(hl:l.length≤100000000)(h:Ch p l w):Calls prog 38 #[.pointer (some ⟨p,0,none⟩),.int .u64 (n:Int)] w (vU p (l++form n) w) :=
 Pk.Cy 0 p n l false w (cK _) hn hl h
theorem tE (p:Nat)(n most:Int)(l:List Nat)(w:World)(h0:0≤n)(h1:n≤most)(hm:most≤9223372036854775807)(hl:l.length≤100000000)(h:Ch p l w):Calls prog 35 #[.pointer (some ⟨p,0,none⟩),.int .i64 n,.int .i64 most] w (vU p (l++fU n) w):=by
 have:=Pk.VA 0 p n most l false w (cK _) (by omega) (by omega) hl h;have e:Pk.qF n most=true:=bA ⟨h0,h1⟩;rw[e] at this;exact this
theorem Ch.lt {p:Nat}{l:List Nat}{W:World}(h:Ch p l W):p<W.heap.size:=Pk.ZW.lt h
theorem Ch.below {p:Nat}{l:List Nat}{W X:World}(h:Ch p l W)(hb:Below W.heap.size W X):Ch p l X:=Pk.ZW.below h hb
structure ZmI (p:Nat)(m:List Int)(l:List Nat)(w W:World):Prop where
 box:W.rangeAt w.heap.size 0 (m.map encI)
 wr:Ch p l W
 gr:w.grownBy W (some p)
theorem ZmI.step {p:Nat}{m:List Int}{l l':List Nat}{w W X:World}{e:Ending}(i:ZmI p m l w W)(hp:p<w.heap.size)(h:vU p l' W e X):ZmI p m l' w X :=
 ⟨fun j v hj=>h.2.2.cell (i.box j v hj) (fun e=>by have : w.heap.size=p:=bK e;omega),h.2.1,i.gr.trans h.2.2⟩
theorem PG (p:Nat)(m:List Int)(l:List Nat)(w:World)(hm:xS 16 m)(hl:l.length≤10000000)(h:Ch p l w) :
  Calls prog 36 #[.pointer (some ⟨p,0,none⟩),.agg (mC m)] w (vU p (l++eW m) w):=by
 obtain ⟨V0,jR⟩:∃V,w.alloc (.cells (mC m) 25)=V:=⟨_,rfl⟩;have hb0:Below w.heap.size w V0:=by rw[←jR];exact (aJ _ w).alloc (aB _) _
 have zS:V0.heap[w.heap.size]?=some (.cells (mC m) 25 (0,0)):=by rw[←jR];exact aG _ _
 have HI:=aA (show ZmI p m l w V0 from ⟨fun j v hj=>by rw[aD _ _ _ _ _ _ zS,bE];simpa[mC] using hj,h.below hb0,Pk.below_grown hb0 (some p)⟩);have oJ:=aA jR;have HP:=aA h.lt;have HM:=aA hm;have HL:=aA hl;clear hb0 zS jR h hm hl;go_enter func36,ntmps36;go_wp2_with (rw[oJ.out])
 clear oJ;go_loopg[4] 16 (fun g s4 wx=>∃k:Nat,g=16-k∧s4=.int .i64 (k:Int)∧k≤16∧ZmI p m (l++eW (m.take k)) w wx)
 case atStart=>exact ⟨0,rfl,rfl,by omega,by have:=HI.out;simpa[eW] using this⟩
 case round =>
  obtain ⟨k,rfl,rfl,hk,hi⟩:=hrel;have HJ:=aA hi;clear hi HI;have k0:(0:Int)≤(k:Int):=by omega
  by_cases hk16:k<16
  ·have t2:(k:Int)<16:=by omega
   obtain ⟨z,hz⟩:∃z,m[k]?=some z:=⟨_,aF (by rw[HM.out.1];exact hk16)⟩;obtain ⟨i,hi⟩:∃i,k/4=i:=⟨_,rfl⟩;obtain ⟨r,hr⟩:∃r,k%4=r:=⟨_,rfl⟩;have hir:i*4+r=k:=by omega
   have i0:(0:Int)≤(i:Int):=by omega
   have i4:(i:Int)<4:=by omega
   have r0:(0:Int)≤(r:Int):=by omega
   have r4:(r:Int)<4:=by omega
   have e1:(k:Int).tdiv 4=(i:Int):=by rw[Int.tdiv_eq_ediv_of_nonneg (by omega)];omega
   have e2:(k:Int).tmod 4=(r:Int):=by rw[Int.tmod_eq_emod_of_nonneg (by omega)];omega
   have e3:(k:Int)/4=(i:Int):=by omega
   have e4:(k:Int)%4=(r:Int):=by omega
   have c0:wr.cell? ⟨w.heap.size,i*4+r,none⟩=some (.int .i64 z):=by
    have:=HJ.out.box k (encI z) (by rw[bZ,hz];rfl);rw[bE,←hir] at this;exact this
   have hl9:(l++eW (m.take k)).length≤100000000:=by
    have h1:=gA (m.take k);have h2:(m.take k).length≤16:=by rw[bT];omega
    have:=HL.out;rw[aI];omega
   have HC:=aA (LH p z _ wr (HM.out.2 z (aX hz)) hl9 HJ.out.wr);have HS:Hid (l++eW (m.take (k+1))=l++eW (m.take k)++fI z):=aA (by
    unfold eW;rw[bX,hz,List.flatMap_append,bM];simp)
   clear hz hi hr hir hl9;go_wp2_with fail;refine HC.out.mono ?_;rintro e w2 rH;obtain rfl:=rH.1;have HN:Hid (ZmI p m (l++eW (m.take (k+1))) w w2):=aA (by rw[HS.out];exact HJ.out.step HP.out rH);clear rH HC;go_wp2_with fail;go_roundg (16-(k+1))
   case measure=>omega
   case rel=>exact ⟨k+1,rfl,by go_num,by omega,HN.out⟩
  ·obtain rfl:k=16:=by omega
   have t2:¬ ((16:Nat):Int)<16:=by omega
   have HE:Hid (vU p (l++eW m) w (.returned undef) wr):=aA (by
    have:=HJ.out.wr;rw[bB (by rw[HM.out.1];omega)] at this;exact ⟨rfl,this,HJ.out.gr⟩)
   clear HJ;go_wp2_with fail;exact aO (results_none rfl _ _ _) rfl HE.out
end Fx
namespace Fx
open Go Go.RowKit
open Pk (PR fW Bs By)
def gO:pO (List Nat):=fun l a=>(Pk.CO false 65536 l a).map fun q=>(q.1,a+q.2)
theorem JV (lost:Bool)(l:List Nat)(a:Nat):eP lost gO l a=(Pk.CO lost 65536 l a).map fun q=>(q.1,a+q.2):=by
 unfold eP
 cases lost
 ·rfl
 ·have : Pk.CO true 65536 l a=none:=by
   unfold Pk.CO Pk.rz;rfl
  rw[this];rfl
theorem QB (x:List Nat):Pk.rz false 65536 x=Pk.rd 65536 x:=by
 unfold Pk.rz;rw[bF (by simp)];rfl
theorem goodT:Good gO nO (fun m=>By m∧m.length≤65536) where
 put m hm l a t ha h:=by
  have hU:=xP (most:=65536) (by omega);unfold nO at h ⊢;rw[bM] at h;have h1:Pk.rd 65536 (l.drop a)=some (m.length,(fU (m.length:Int)).length):=by
   rw[h];unfold fU;rw[show ((m.length:Int)).toNat=m.length by omega];exact Pk.uT m.length 65536 _ (by omega) (by omega)
  obtain ⟨h2,h3⟩:=BQ ha h;have h4:m.length≤l.length-(a+(fU (m.length:Int)).length):=by
   have:=congrArg List.length h2;rw[cQ,aI] at this;omega
  unfold gO Pk.CO;rw[QB,h1];dsimp only;rw[aZ h4,h2,List.take_left];simp
 get l a m b hb ha h:=by
  unfold gO at h;rw[Option.map_eq_some_iff] at h;obtain ⟨⟨m',d⟩,ht,e⟩:=h;simp only[Prod.mk.injEq] at e;obtain ⟨rfl,rfl⟩:=e;unfold Pk.CO at ht;rw[QB] at ht;have hU:=xP (most:=65536) (by omega)
  cases hr:Pk.rd 65536 (l.drop a) with
  | none=>rw[hr] at ht;cases ht
  | some q =>
   obtain ⟨n,j⟩:=q;rw[hr] at ht;dsimp only at ht
   split at ht
   ·rename_i hle
    simp only[Option.some.injEq,Prod.mk.injEq] at ht;obtain ⟨rfl,rfl⟩:=ht;have hg:=hU.get l a (n:Int) (a+j) hb ha (by unfold pU;rw[hr];rfl);obtain ⟨h1,h2,h3,h4⟩:=hg;have jH:((l.drop (a+j)).take n).length=n:=by rw[bT,cQ];omega
    refine ⟨⟨fun x hx=>hb x (List.mem_of_mem_drop (cI hx)),by rw[jH];omega⟩,?_,?_,by omega⟩
    ·unfold nO
     rw[jH,h2,bM]
     congr 1
     have e:=List.take_append_drop n (l.drop (a+j));rw[List.drop_drop] at e;rw[show a+(j+n)=(a+j)+n by omega];exact e.symm
    ·unfold nO
     rw[jH,aI,jH];omega
   ·cases ht
 bytes m hm:=fun x hx=>by
  unfold nO at hx
  rcases bS.1 hx with hx|hx
  ·exact Pk.gY (by have:=hm.2;omega) x hx
  ·exact hm.1 x hx
structure AA where
 o:Option Addr
 c:Nat
 l:List Nat
def LP (x:AA):List Value:=[.slice x.o x.l.length x.c]
structure pN (x:AA)(W:World):Prop where
 own:Pk.Own W 0 (.slice x.o x.l.length x.c) x.l
 lt:∀b off,x.o=some ⟨b,off,none⟩→b<W.heap.size
theorem Kz {W X:World}{B:Nat}{v:Value}{l:List Nat}(h:Pk.Own W B v l)(hr:Rows 5 W X):Pk.Own X B v l:=by
 obtain ⟨h1,h2⟩:=h;refine ⟨h1,?_⟩
 rcases h2 with h2|⟨g,cap,cur,e,hb,hg,h3⟩
 ·exact .inl h2
 ·exact .inr ⟨g,cap,cur,e,hb,hr g cur hg,h3⟩
theorem pN.rows {x:AA}{W X:World}(h:pN x W)(hr:Rows 5 W X):pN x X:=by
 have h1:=Kz h.own hr;refine ⟨h1,fun b off e=>?_⟩;obtain ⟨o,c,e2,_,_,_,_,hf⟩:=h1.open
 cases e2;obtain ⟨g,e3,_,h4,_⟩:=hf _ e
 cases e3;exact h4
theorem pN.bs {x:AA}{W:World}(h:pN x W):Bs W x.o x.l∧x.l.length≤x.c∧x.c≤9223372036854775807:=by
 obtain ⟨o,c,e2,h1,h2,h3,_,_⟩:=h.own.open
 cases e2;exact ⟨h1,h2,h3⟩
theorem Ue:OP 31 108 pN:=fun z W X h hR=>h.rows (hR _ (by decide) (by decide) (by decide))
def PTx (p a:Nat)(lost:Bool)(o:Option Addr)(c:Nat)(l:List Nat)(w:World)(e:Ending)(w':World):Prop:=mD gO AA.l pN (fun x=>.slice x.o x.l.length x.c) o c l p a lost w e w'
theorem MU:mP 31 1 24:=mP.of (by omega) (by omega) (by kernel_rfl)
theorem Jp (x:AA):∀u∈LP x,u.oneCell'=true:=fun u hu=>by
 simp only[LP,List.mem_cons,List.not_mem_nil,or_false] at hu;subst hu;rfl
theorem Dq (o:Option Addr)(c:Nat)(l:List Nat)(p a:Nat)(lost:Bool)(w:World)(k:fW l a)(h:PR o c l p a lost w) :
  Calls prog 56 #[.pointer (some ⟨p,0,none⟩)] w (PTx p a lost o c l w):=by
 have HT:=aA (Pk.WH o c l p a 65536 lost w k (by omega) h);have HK:=aA k.at';have mG:=aA (JV lost l a);have oh:Hid (∀q,Pk.CO lost 65536 l a=some q→a+q.2≤l.length):=aA (fun q hq=>by
  unfold Pk.CO at hq
  cases hz:Pk.rz lost 65536 (l.drop a) with
  | none=>rw[hz] at hq;cases hq
  | some q2 =>
   obtain ⟨n,j⟩:=q2;rw[hz] at hq;dsimp only at hq
   split at hq
   ·rename_i hle
    cases hq;show a+(j+n)≤l.length;have hj:a+j≤l.length:=by
     have hs:=kM (lost:=lost) (most:=65536) (l:=l) (a:=a);rw[show Pk.rz lost ((65536:Nat):Int) (l.drop a)=some (n,j) from hz] at hs;simp only[Option.map_some] at hs;unfold eP at hs
     split at hs
     ·cases hs
     ·have:=zD k.at' hs.symm
      omega
    omega
   ·cases hq)
 clear k h;obtain ⟨R,hR⟩:∃R,Pk.CO lost 65536 l a=R:=⟨_,rfl⟩;rw[hR] at HT mG oh;clear hR;unfold Pk.PTxt at HT;go_enter func56,ntmps56;go_wp2_with fail;refine HT.out.mono ?_;rintro e w1 ⟨⟨v,rfl,hown⟩,zT,hg⟩;obtain ⟨o1,c1,rfl,mJ,hc1,hc2,oF,hsp⟩:=hown.open;have HE:Hid (PTx p a lost o c l w (.returned (.slice o1 ((R.map (·.1)).getD []).length c1)) w1):=aA (by
  refine ⟨hg,⟨o1,c1,(R.map (·.1)).getD []⟩,rfl,⟨hown.mono (cK _),fun b off e=>?_⟩,?_⟩
  ·obtain ⟨g,e2,_,h2,_⟩:=hsp _ e
   cases e2;exact h2
  ·rw[mG.out]
   cases R with
   | none=>exact ⟨a,HK.out,zT⟩
   | some q =>
    refine ⟨rfl,oh.out q rfl,zT⟩)
 clear hown zT hg mJ hsp HT;go_wp2_with fail;go_ret;exact HE.out
section
variable {t:TypeId} {n:Nat}
theorem IE {bytes:Nat}(hi:mP t n bytes)(hm:n≤1000)(ts:TypeId)(hu:prog.underlying ts=some (.slice t))(W:World)(v:Value)(hc:v.cells.size=n) :
  (Instr.buildSlice ts 1 #[(0,v)]).run prog W=.ok (.slice (some ⟨W.heap.size,0,none⟩) 1 1) (W.alloc (.cells v.cells t)):=by
 obtain ⟨i,z,h2,h3,h4,h5,h6⟩:=hi.get;refine run_buildSlice W ts t 1 _ v.cells i z hu h2 h3 (by rw[h4];omega) (by rw[h4];have:=hi.pos;omega) ?_;rw[h4];have:=Great.fill_whole hi.pos [v] ((Array.range (1*n)).map (z.cells[· % z.cells.size]!)) (fun w hw=>by simp at hw;subst hw;exact hc) (by simp)
 simpa using this
theorem FN {bytes:Nat}(hi:mP t n bytes)(hm:n≤1000){ops:Array Oper}{rest:List Oper}{o:Oper}{a:Act}{Q:Exit→Act→World→Prop}{W:World}(hgd:o.guard=none)(x:Operand)(ts:TypeId)
  (ho:o.op=.buildSlice ts 1 #[(0,x)]) (hu:prog.underlying ts=some (.slice t)) (v:Value) (hx:a.eval x=v) (cs:Array Value) (hcs:v.cells=cs) (hc:cs.size=n)
  (h:wpList prog ops Q rest (a.put o.dst (.slice (some ⟨W.heap.size,0,none⟩) 1 1)) (W.alloc (.cells cs t))) :
  wpList prog ops Q (o::rest) a W:=by
 subst hcs;have hrun:=IE hi hm ts hu W v hc;refine wpList_plain hgd fun K hK'=>?_
 unfold Oper.wp;simp[execOp,ho,hx,hrun,Result.andThen];exact hK' _ _ h
end
end Fx
namespace Fx
open Go Go.RowKit
open Pk (PR fW Bs)
theorem tN (a b:Addr)(w:World) :
  CallsD prog 94 #[.pointer (some a),.pointer (some b)] .returning w fun e u' w'=>e=.returned (.tuple #[])∧u'=.returning∧w'=w:=by
 refine callsD_of_wpS func94 rfl fun c₀ cs hu=>?_
 apply wpS_seq
 apply wpS_region
 simp[wpOpsS,go_sem,recoverD,hu,ntmps94,Exit.thenS];refine wpS_cond (t:=false) (by simp[Act.eval,Array.replicate]) ?_;simp only[bD,if_false];refine wpS_of_wp (wp_skip ?_)
 cases c₀
 simp_all [bodyPostS,results,results94]
theorem Us (B:Nat)(o:Option Addr)(c:Nat)(l:List Nat)(p dR:Nat)(lost:Bool)(w:World)(hB:B≤w.heap.size)(k:fW l dR)(h:PR o c l p dR lost w)(iE:∀b off,o=some ⟨b,off,none⟩→0<l.length→b<w.heap.size) :
  Calls prog 55 #[.pointer (some ⟨p,0,none⟩),.int .i64 100,.func (.func 56) #[] #[]] w (OZ AA.l 31 1 LP pN o c l p (eP lost (fG 100 gO) l dR) w):=by
 have vR:OP 31 108 pN:=Ue;have lK:=aA vR;have hmf:∀ (fn:Fn) (first cap:Array Value) (w:World),(Instr.makeFunc fn first cap).run prog w=.ok (.func fn first cap) w:=fun _ _ _ _=>rfl
 have hp:=h.lt;obtain ⟨W1,hW1⟩:∃W1,(w.alloc (.cells #[.pointer (some ⟨p,0,none⟩)] 90)).alloc (.cells #[.slice none 0 0] 108)=W1:=⟨_,rfl⟩;have hb1:Below w.heap.size w W1:=by rw[←hW1];exact ((aJ _ w).alloc (aB _) _).alloc (by simp) _
 have hs:=Pk.nJ o c l p dR 100 lost W1 k (by omega) (h.below hb1);have yJ:CF 31 108 1 LP pN o c l p dR lost (.slice none 0 0) [] w W1:=by
  refine ⟨?_,?_,h.below hb1,fK.nil _ _ _ _ _,fun z hz=>by simp at hz,Pk.below_grown hb1 (some p)⟩
  ·rw[←hW1];exact dM (aG _ _)
  ·rw[←hW1]
   have:=aG (w.alloc (.cells #[.pointer (some ⟨p,0,none⟩)] 90)) (.cells #[.slice none 0 0] 108);rw[aR] at this;exact this
 have HS:=aA hs;have kG:=aA yJ;have HK:=aA k;have HP:=aA hp;have jA:=aA iE;have xY:=aA hW1;clear hs yJ h iE hb1 hW1 k hp vR hB;have oW:=kM (lost:=lost) (most:=100) (l:=l) (a:=dR);obtain ⟨R,hR⟩:∃R,Pk.rz lost (100:Int) (l.drop dR)=R:=⟨_,rfl⟩;have Oe:Pk.rz lost ((100:Nat):Int) (l.drop dR)=R:=hR;rw[hR] at HS;rw[Oe] at oW;obtain ⟨r,hr⟩:∃r,eP lost (fG 100 gO) l dR=r:=⟨_,rfl⟩;have OI:Hid (r=match R.map (fun q=>((q.1:Int),dR+q.2)) with|none=>none|some (n,b)=>fE gO n.toNat l b):=aA (by
  rw[←hr,oW];unfold eP fG
  cases lost <;> rfl)
 have Rc:Hid (∀q,R=some q→q.1≤100∧dR+q.2≤l.length):=aA (fun q hq=>by
  rw[hq] at oW;simp only[Option.map_some] at oW;unfold eP at oW
  split at oW
  ·cases oW
  ·have:=zD HK.out.at' oW.symm
   omega)
 rw[hr];clear hR Oe oW hr
 cases R with
 | none =>
  have SE:r=none:=OI.out;subst SE
  go_enter_defers func55,ntmps55
  go_wp2_with fail;rw[xY.out];refine HS.out.mono ?_;rintro e w1 ⟨rfl,hr1,hg1⟩;simp only[Pk.pR,Pk.YU,Pk.YT,Option.isNone_none] at hr1 ⊢;have sW:=kG.out.read lK.out (by decide) HP.out hr1 hg1;obtain ⟨c0,c1,f1⟩:=sW.facts;have jD:=aA (sW.strike lK.out (by decide) HP.out jA.out);have jZ:Hid (OZ AA.l 31 1 LP pN o c l p none w (.returned (.slice none 0 0)) (w1.setCell ⟨w.heap.size+1,0,none⟩ (.slice none 0 0))):=aA ⟨jD.out.grow,fun _=>⟨rfl,dR,HK.out.at',jD.out.rd⟩,fun zs a h=>by cases h⟩;clear hr1 hg1 sW HS kG;go_wp2_with fail;go_loopg[12] 0 (fun g s12 wr=>g=0∧s12=.int .i64 0∧wr=w1)
  case atStart=>exact ⟨rfl,rfl,rfl⟩
  case round =>
   obtain ⟨_,rfl,rfl⟩:=hrel;go_wp2_with fail;refine leaves_cons (f:=94) (args:=#[.pointer (some ⟨w.heap.size,0,none⟩),.pointer (some ⟨w.heap.size+1,0,none⟩)]) (by simp) (by simp[go_sem]) ?_;refine (tN ⟨w.heap.size,0,none⟩ ⟨w.heap.size+1,0,none⟩ _).mono ?_;rintro e u' w'' ⟨rfl,rfl,rfl⟩;obtain ⟨_,dr,_⟩:=jD.out.facts;simp only[Leaves,settle];refine ⟨_,(by simp[results,results55,go_sem,dr];rfl),?_⟩;exact jZ.out
 | some q =>
  obtain ⟨n,j⟩:=q;have zR:r=fE gO n l (dR+j):=OI.out;obtain ⟨GM,BN⟩:=Rc.out (n,j) rfl;dsimp only at GM BN;obtain ⟨iQ,wJ⟩:∃iQ,dR+j=iQ:=⟨_,rfl⟩;rw[wJ] at zR BN;have Il:=aA zR;have JE:=aA wJ;have HNM:=aA GM;have n0:(0:Int)≤(n:Int):=by omega
  have n9:(n:Int)≤100:=by omega
  clear OI Rc zR GM wJ
  go_enter_defers func55,ntmps55
  go_wp2_with fail;rw[xY.out];refine HS.out.mono ?_;rintro e w1 ⟨rfl,hr1,hg1⟩;simp only[Pk.pR,Pk.YU,Pk.YT,Option.isNone_some] at hr1 ⊢;rw[JE.out] at hr1;have PE:=aA (kG.out.read lK.out (by decide) HP.out hr1 hg1);clear hr1 hg1 HS kG;go_wp2_with fail;go_loopg[7,12] n (fun g s7 s12 wr=>∃ (i a:Nat) (v:Value) (zs:List AA),g=n-i∧i≤n∧s12=.int .i64 (i:Int)∧a≤l.length∧zs.length=i∧r=(fE gO (n-i) l a).map (fun q=>(zs.map AA.l++q.1,q.2))∧CF 31 108 1 LP pN o c l p a false v zs w wr)
  case atStart=>exact ⟨0,iQ,_,[],rfl,by omega,rfl,BN,rfl,by rw[Il.out];(cases fE gO (n-0) l iQ <;> rfl),PE.out⟩
  case round =>
   clear PE;obtain ⟨i,a,v,zs,Fc,nT,rfl,Od,hzs,wF,yJ⟩:=hrel;subst Fc;obtain ⟨c0,c1,f1⟩:=yJ.facts;have kG:=aA yJ;have yU:=aA wF;have Hg:=aA hzs;have YL:Hid (fW l a):=aA ⟨HK.out.by',HK.out.len,Od⟩;have i00:(0:Int)≤(i:Int):=by omega
   clear yJ wF hzs;by_cases sB:i<n
   ·have t1:(i:Int)<(n:Int):=by omega
    have iM:=Dq o c l p a false wr YL.out kG.out.rd;have Mt:n-i=(n-(i+1))+1:=by omega
    have hr2:=yU.out;rw[Mt,kW] at hr2;unfold PTx mD at iM;have hrun:eP false gO l a=gO l a:=rfl;rw[hrun] at iM;obtain ⟨R2,UO⟩:∃R2,gO l a=R2:=⟨_,rfl⟩;rw[UO] at iM hr2;have mX:=aA iM;have iP:=aA hr2;clear iM Mt hr2 UO yU hrun;go_wp2_with fail;refine mX.out.mono ?_;rintro e w2 ⟨hg2,x,rfl,hex,hx2⟩;clear mX
    cases R2 with
    | none =>
     have mG:Hid (r=none):=aA iP.out;obtain ⟨a2,ha2,hr2⟩:=hx2;have lL:=kG.out.read lK.out (by decide) HP.out hr2 hg2;have vJ:=hex;obtain ⟨d0,d1,e1⟩:=lL.facts;obtain ⟨g0,g1,_⟩:=lL.rd.facts;have HF:=aA (Pk.fV p true true w2 g0 g1);have jD:=aA (lL.strike lK.out (by decide) HP.out jA.out);have jZ:Hid (OZ AA.l 31 1 LP pN o c l p r w (.returned (.slice none 0 0)) (w2.setCell ⟨w.heap.size+1,0,none⟩ (.slice none 0 0))):=aA ⟨jD.out.grow,fun _=>⟨rfl,a2,ha2,jD.out.rd⟩,fun zs a h=>by rw[mG.out] at h;cases h⟩;clear hr2 hg2 lL kG iP mG c0 c1 f1 g0 g1;go_wp2_with fail;refine HF.out.mono ?_;rintro e w3 ⟨rfl,rfl⟩;simp only[Pk.fl,if_true];go_wp2_with fail;refine leaves_cons (f:=94) (args:=#[.pointer (some ⟨w.heap.size,0,none⟩),.pointer (some ⟨w.heap.size+1,0,none⟩)]) (by simp) (by simp[go_sem]) ?_;refine (tN ⟨w.heap.size,0,none⟩ ⟨w.heap.size+1,0,none⟩ _).mono ?_;rintro e u' w'' ⟨rfl,rfl,rfl⟩;obtain ⟨_,dr,_⟩:=jD.out.facts;simp only[Leaves,settle];refine ⟨_,(by simp[results,results55,go_sem,dr];rfl),?_⟩;exact jZ.out
    | some q2 =>
     obtain ⟨kx,jj⟩:=q2;obtain ⟨Nf,IJ,hr2⟩:=hx2;have lL:=kG.out.read lK.out (by decide) HP.out hr2 hg2;have vJ:=hex;obtain ⟨g0,g1,_⟩:=lL.rd.facts;have HF:=aA (Pk.fV p true false w2 g0 g1);obtain ⟨ov,cv,MW,_,_⟩:=lL.own.form (fun z _=>rfl);subst MW;obtain ⟨d0,d1,e1⟩:=lL.facts;have Yx:=aA Nf;have HJL:=aA IJ;obtain ⟨V3,oG⟩:∃V,w2.alloc (.cells (LP x).toArray 31)=V:=⟨_,rfl⟩;have hb3:Below w2.heap.size w2 V3:=by rw[←oG];exact (aJ _ _).alloc (aB _) _
     have OJ:=aA (lL.up lK.out hb3);have HEA:=aA (lK.out x _ _ vJ (fun u _ _ _=>Rows.of_below hb3));have mG:=aA (show V3.heap[w2.heap.size]?=some (.cells (LP x).toArray 31 (0,0)) by rw[←oG];exact aG _ _);have Hm:Hid ((LP x).toArray.size=1):=aA (by rw[aL];exact (by rfl));have GV:=aA oG;have UH:Hid (w.heap.size+2≤V3.heap.size):=aA OJ.out.lt;clear hr2 hg2 lL kG c0 c1 f1 g0 g1 hex vJ Nf IJ oG hb3;go_wp2_with fail;refine HF.out.mono ?_;rintro e w3 ⟨rfl,rfl⟩;simp only[Pk.fl,if_true,bD,if_false];clear HF;go_wp2_with (first|(rw[GV.out])|(with_reducible refine dQ (some 22) rfl ?_;refine aA ?_;refine FN MU (by omega) rfl (.tmp 21) 108 rfl underlying108 (.slice x.o x.l.length x.c) rfl (LP x).toArray rfl rfl ?_)|(at_builtin;refine pD MU rfl (.tmp 20) (.tmp 22) 108 rfl underlying108 (w.heap.size+2) (.slice ov zs.length cv) zs [x] rfl UH.out OJ.out.own (some ⟨w2.heap.size,0,none⟩) 1 rfl (fun h=>by cases h) (kE mG.out) (fun z hz=>by simp at hz;subst hz;have:=Hm.out;rwa [aL] at this) (fun z _=>Jp z) (by have:=Hg.out;have:=HNM.out;simp;omega) ?_))
     intro v' w4 vP hg4;refine aA ?_;obtain ⟨oX,NF⟩:=OJ.out.app lK.out (by decide) HP.out jA.out vP hg4 (fun z hz=>by
      rcases bS.1 hz with hz|hz
      ·exact OJ.out.el z hz
      ·simp at hz
       subst hz;exact HEA.out)
     have s0:w4.cell? ⟨w.heap.size+1,0,none⟩=some (.slice ov zs.length cv):=(aD _ _ 0 _ _ _ oX).trans rfl;have s1:w4.frozen? ⟨w.heap.size+1,0,none⟩=false:=dJ oX;obtain ⟨ow,cw,tB,_,_⟩:=vP.form (fun z _=>rfl);subst tB;have Rk:=aA NF;clear vP hg4 oX NF d0 d1 e1;obtain ⟨ml,jH⟩:∃ml,(zs++[x]).length=ml:=⟨_,rfl⟩;rw[jH] at Rk ⊢;clear jH;go_wp2_with fail;go_roundg (n-(i+1))
     case measure=>omega
     case rel =>
      refine ⟨i+1,jj,_,zs++[x],rfl,by omega,by go_num,HJL.out,by simp[Hg.out],?_,Rk.out⟩;rw[iP.out]
      (try dsimp only)
      rw[←Yx.out]
      cases fE gO (n-(i+1)) l jj with
      | none=>rfl
      | some q=>simp
   ·have t1:¬ (i:Int)<(n:Int):=by omega
    have oN:Hid (r=some (zs.map AA.l,a)):=aA (by
     have:=yU.out;rw[show n-i=0 by omega] at this;rw[this];simp[fE])
    obtain ⟨ov,cv,MW,_,_⟩:=kG.out.own.form (fun z _=>rfl);subst MW;have lJ:=(kG.out.app lK.out (by decide) HP.out jA.out kG.out.own (cG _ _) kG.out.el).2;have jD:=aA lJ;have jZ:Hid (OZ AA.l 31 1 LP pN o c l p r w (.returned (.slice ov zs.length cv)) (wr.setCell ⟨w.heap.size+1,0,none⟩ (.slice ov zs.length cv))):=aA ⟨lJ.grow,(fun h=>by rw[oN.out] at h;cases h),fun ks' a' h=>by rw[oN.out] at h;cases h;exact ⟨⟨_,zs,rfl,lJ.own.base (by omega),lJ.el,rfl⟩,Od,lJ.rd⟩⟩;clear yU kG lJ oN;go_wp2_with fail;refine leaves_cons (f:=94) (args:=#[.pointer (some ⟨w.heap.size,0,none⟩),.pointer (some ⟨w.heap.size+1,0,none⟩)]) (by simp) (by simp[go_sem]) ?_;refine (tN ⟨w.heap.size,0,none⟩ ⟨w.heap.size+1,0,none⟩ _).mono ?_;rintro e u' w'' ⟨rfl,rfl,rfl⟩;obtain ⟨_,dr,_⟩:=jD.out.facts;simp only[Leaves,settle];refine ⟨_,(by simp[results,results55,go_sem,dr];rfl),?_⟩;exact jZ.out
end Fx
namespace Cx
open Go Go.RowKit
def num:List Nat→Nat
 | []=>0
 | c::l=>c+256*num l
theorem Cf (a b i:Nat)(hb:b<2^i):b+2^i*a=b ^^^ 2^i*a:=by
 apply Nat.eq_of_testBit_eq
 intro j;rw[Nat.add_comm,Nat.testBit_two_pow_mul_add a hb,Nat.testBit_xor,Nat.testBit_two_pow_mul];by_cases h:j<i
 ·have : ¬ i≤j:=by omega
  simp[h,this]
 ·have h2:b.testBit j=false:=Nat.testBit_lt_two_pow (aP hb (Nat.pow_le_pow_right (by omega) (by omega)))
  have : i≤j:=by omega
  simp[h,h2,this]
theorem Aa (i a b:Nat):2^i*(a ^^^ b)=2^i*a ^^^ 2^i*b:=by
 apply Nat.eq_of_testBit_eq
 intro j;rw[Nat.testBit_xor,Nat.testBit_two_pow_mul,Nat.testBit_two_pow_mul,Nat.testBit_two_pow_mul,Nat.testBit_xor];by_cases h:i≤j <;> simp[h]
theorem RL (k m:Nat):it k (2^k*m)=m:=by
 induction k with
 | zero=>simp[it]
 | succ k ih =>
  simp only[it];rw[show 2^(k+1)*m=2*(2^k*m) by rw[bY,cF (2^k) 2,Nat.mul_assoc],JU,ih]
theorem By.tail {c:Nat}{l:List Nat}(h:By (c::l)):By l:=fun d hd=>h d (List.mem_cons_of_mem _ hd)
theorem By.head {c:Nat}{l:List Nat}(h:By (c::l)):c<256:=h c (List.mem_cons_self ..)
theorem tL {c:Nat}{l:List Nat}(h:c<256):num (c::l)=c ^^^ 2^8*num l:=Cf (num l) c 8 h
theorem MA {l:List Nat}(h:By l)(x:Nat):reg l x=it (8*l.length) (x ^^^ num l):=by
 induction l generalizing x with
 | nil=>simp[reg,num,it]
 | cons c l ih =>
  rw[QH,ih h.tail,tL h.head,bO,show 8*(l.length+1)=8+8*l.length by omega,WY,←Nat.xor_assoc,MR 8 (x ^^^ c) (2^8*num l),RL]
theorem zn {l:List Nat}(h:By l):num l<2^(8*l.length):=by
 induction l with
 | nil=>simp[num]
 | cons c l ih =>
  have a:=ih h.tail;have b:=h.head;rw[num,bO,show 8*(l.length+1)=8+8*l.length by omega,Nat.pow_add];generalize 2^(8*l.length)=P at *;omega
theorem xC {l:List Nat}(h:By l)(j b:Nat)(hj:j<l.length)(hb:b<256):num (l.set j (l.getD j 0 ^^^ b))=num l ^^^ 2^(8*j)*b:=by
 induction l generalizing j with
 | nil=>simp at hj
 | cons c l ih =>
  have hc:=h.head
  cases j with
  | zero =>
   have hx:c ^^^ b<256:=Nat.xor_lt_two_pow (n:=8) hc hb;show num ((c ^^^ b)::l)=_;rw[tL hx,tL hc,Nat.mul_zero,Nat.pow_zero,Nat.one_mul,Nat.xor_assoc,Nat.xor_comm b,←Nat.xor_assoc]
  | succ j =>
   show num (c::l.set j (l.getD j 0 ^^^ b))=_;rw[tL hc,tL hc,ih h.tail j (by simpa using hj),Aa,Nat.xor_assoc,←Nat.mul_assoc,←Nat.pow_add,show 8+8*j=8*(j+1) by omega]
theorem ZO:∀ {l m:List Nat},By l→By m→l.length=m.length→num l=num m→l=m
 | [],[],_,_,_,_=>rfl
 | c::l,d::m,h1,h2,hl,hn=>by
  have a:=h1.head;have b:=h2.head;simp only[num] at hn;have e1:c=d:=by omega
  have e2:num l=num m:=by omega
  rw[e1,ZO h1.tail h2.tail (by simpa using hl) e2]
 | [],_::_,_,_,h,_=>by simp at h
 | _::_,[],_,_,h,_=>by simp at h
theorem aAh {k a b:Nat}(ha:a<4294967296)(hb:b<4294967296)(h:it k a=it k b):a=b:=by
 apply yY
 apply EG k (tF ha hb)
 rw[MR,h,Nat.xor_self]
theorem ZL:ones<4294967296:=by rw[AY];omega
theorem Ex (l:List Nat):more 0 l=reg l ones ^^^ ones:=by
 unfold more;rw[show nt 0=ones by decide];rfl
theorem num4 (c0 c1 c2 c3:Nat):num [c0,c1,c2,c3]=c0+256*c1+65536*c2+16777216*c3:=by
 simp only[num];omega
theorem CW {t:List Nat}{c0 c1 c2 c3:Nat}(h:By (t++[c0,c1,c2,c3])):[c0,c1,c2,c3]=mH (more 0 t)↔reg (t++[c0,c1,c2,c3]) ones=it 32 ones:=by
 have ht:By t:=fun c hc=>h c (List.mem_append_left _ hc)
 have h4:By [c0,c1,c2,c3]:=fun c hc=>h c (List.mem_append_right _ hc)
 have k0:=h4 c0 (by simp);have k1:=h4 c1 (by simp);have k2:=h4 c2 (by simp);have k3:=h4 c3 (by simp);have hr:=MB ht ZL;rw[←Ag k0 k1 k2 k3 (xE ht (by omega)),←num4,CZ,MA h4,Ex];have hn:num [c0,c1,c2,c3]<4294967296:=by have:=zn h4;simpa using this
 generalize num [c0,c1,c2,c3]=z at *;generalize reg t ones=r at *
 constructor
 ·intro e
  rw[e,yB];rfl
 ·intro e
  have:=aAh (tF hr hn) ZL e;rw[←this,yB]
def cut (mask kB i T:Nat):Nat:=mask%2^(min i (T-kB))
theorem cut_lt {mask:Nat}(kB i T:Nat)(h:mask<4294967296):cut mask kB i T<4294967296:=Nat.lt_of_le_of_lt (Nat.mod_le _ _) h
theorem TN {mask kB i T:Nat}(h:T≤kB+i):cut mask kB (i+1) T=cut mask kB i T:=by
 unfold cut;rw[show min (i+1) (T-kB)=min i (T-kB) by omega]
theorem Pt {mask kB i T:Nat}(h:kB+i<T):cut mask kB (i+1) T=cut mask kB i T+(if mask/2^i%2=1 then 2^i else 0):=by
 unfold cut;rw[show min (i+1) (T-kB)=i+1 by omega,show min i (T-kB)=i by omega,QY]
theorem Xl {mask kB i T:Nat}(h:¬ mask/2^i%2=1):cut mask kB (i+1) T=cut mask kB i T:=by
 by_cases hT:kB+i<T
 ·rw[Pt hT,bF h,Nat.add_zero]
 ·exact TN (by omega)
theorem Xm {mask kB i T:Nat}(h:kB+i<T)(hb:mask/2^i%2=1):cut mask kB (i+1) T≠0∧2^kB*cut mask kB i T ^^^ 2^(kB+i)=2^kB*cut mask kB (i+1) T:=by
 rw[Pt h,aZ hb];have hp:0<2^i:=Nat.pow_pos (by omega);refine ⟨by omega,?_⟩;have hlt:cut mask kB i T<2^i:=by
  unfold cut;rw[show min i (T-kB)=i by omega];exact cO _ hp
 have:=Cf 1 (cut mask kB i T) i hlt;rw[Nat.mul_one] at this;rw[this,Aa,Nat.pow_add]
theorem XV {b s':List Nat}{m kB:Nat}(hb:By b)(hs:By s')(hl:s'.length=b.length+4)(hf:kB≤8*(b.length+4))(hm:m<4294967296)
  (hn:num s'=num (b++mH (more 0 b)) ^^^ 2^kB*m):opened s'=if m=0 then some b else none:=by
 have mJ:By (b++mH (more 0 b)):=hb.append (Ma _);have hle:(b++mH (more 0 b)).length=b.length+4:=by rw[aI];rfl
 have r1:reg (b++mH (more 0 b)) ones=it 32 ones:=(CW (t:=b) mJ).1 rfl;have r2:reg s' ones=it 32 ones ^^^ it (8*(b.length+4)-kB) m:=by
  rw[MA hs,hl,hn,←Nat.xor_assoc,MR,←hle,←MA mJ,r1,hle]
  congr 1
  rw[show 8*(b.length+4)=kB+(8*(b.length+4)-kB) by omega,WY,RL]
  congr 1
  omega
 have hf4:=NS hl;rw[tK hf4];have hs4:=hs;rw[hf4] at hs4;have key:=CW hs4;rw[←hf4,r2] at key;by_cases h0:m=0
 ·rw[aZ h0]
  subst h0;rw[Ah,Nat.xor_zero] at key;rw[Nat.mul_zero,Nat.xor_zero] at hn;have he:=ZO hs mJ (hl.trans hle.symm) hn;rw[aZ (by rw[key.2 rfl];exact beq_self_eq_true _),he,List.take_left]
 ·rw[bF h0,bF]
  intro h;have e:=key.1 (by simpa using h)
  apply h0
  apply EG (8*(b.length+4)-kB) hm
  have : it 32 ones ^^^ (it 32 ones ^^^ it (8*(b.length+4)-kB) m)=it 32 ones ^^^ it 32 ones:=by rw[e]
  rwa [yB,Nat.xor_self] at this
end Cx
namespace Fx
open Go Go.RowKit Go.Lib
open Pk (Bs By iO)
structure TB (W0:World)(B n gs cs mask kB Q i:Nat)(wx:World):Prop where
 rows:∃ls,ls.length=n∧By ls∧Cx.Own wx B (.slice (some ⟨gs,0,none⟩) n cs) ls∧Cx.num ls=Q ^^^ 2^kB*Cx.cut mask kB i (8*n)
 grown:W0.grownBy wx (some gs)
theorem TB.past {W0 wx:World}{B n gs cs mask kB Q i:Nat}(h:TB W0 B n gs cs mask kB Q i wx)(hT:8*n≤kB+i):∀k,TB W0 B n gs cs mask kB Q (i+k) wx
 | 0=>h
 | k+1=>by
  obtain ⟨a,d⟩:=h.past hT k;refine ⟨?_,d⟩;rw[←Nat.add_assoc,Cx.TN (by omega)];exact a
theorem TB.off {W0 wx:World}{B n gs cs mask kB Q i:Nat}(h:TB W0 B n gs cs mask kB Q i wx)(hb:¬ mask/2^i%2=1):TB W0 B n gs cs mask kB Q (i+1) wx:=by
 obtain ⟨a,d⟩:=h;refine ⟨?_,d⟩;rw[Cx.Xl hb];exact a
theorem TB.on {W0 wx:World}{B n gs cs mask kB Q i j r:Nat}(h:TB W0 B n gs cs mask kB Q i wx)(hT:kB+i<8*n)(hb:mask/2^i%2=1)(hj:8*j+r=kB+i)(hr:r<8) :
  ∃c,c<256∧wx.cell? ⟨gs,j,none⟩=some (.int .u8 ((c:Nat):Int))∧wx.frozen? ⟨gs,j,none⟩=false ∧
   TB W0 B n gs cs mask kB Q (i+1) (wx.setCell ⟨gs,j,none⟩ (.int .u8 ((c ^^^ 2^r:Nat):Int))):=by
 obtain ⟨⟨ls,hl,hby,hown,hnum⟩,hg⟩:=h;obtain ⟨_,_,e,mJ,_,_,_,BJ⟩:=hown.open;rw[hl] at e
 cases e;have IJ:j<ls.length:=by omega
 have hc:=Cx.vS mJ IJ;rw[bE] at hc;obtain ⟨g2,e2,_,_,hf⟩:=BJ _ rfl
 cases e2;have h2r:2^r<256:=by
  have : 2^r<2^8:=Nat.pow_lt_pow_right (by omega) hr
  simpa using this
 have hown':=hown;rw[←hl] at hown';have GQ:=Cx.bump (k:=j) hown' (ls.getD j 0 ^^^ 2^r);rw[hl] at GQ;have hcb:=Cx.Xm (mask:=mask) (kB:=kB) (i:=i) hT hb;refine ⟨ls.getD j 0,Cx.By.get hby j,hc,hf j,⟨ls.set j (ls.getD j 0 ^^^ 2^r),by simpa using hl,?_,GQ.1,?_⟩,Cx.uB hg GQ.2⟩
 ·intro c hc2
  rcases List.mem_or_eq_of_mem_set hc2 with h|rfl
  ·exact hby c h
  ·exact Nat.xor_lt_two_pow (n:=8) (Cx.By.get hby j) h2r
 ·rw[Cx.xC hby j (2^r) IJ h2r,hnum,←Nat.pow_add,hj,Nat.xor_assoc,hcb.2]
theorem TB.last {W0 wx:World}{B n gs cs mask kB i:Nat}{m:List Nat}(hm:By m)(hn:m.length+4=n)(hk:mask<4294967296)(hf:kB≤8*n)(h:TB W0 B n gs cs mask kB (Cx.num (iK m)) i wx)(hi:i=32∨8*n≤kB+i∧i≤32) :
  ∃ls,ls.length=n∧By ls∧Cx.Own wx B (.slice (some ⟨gs,0,none⟩) n cs) ls∧W0.grownBy wx (some gs)∧(ls=iK m∨ls≠iK m∧Cx.opened ls=none):=by
 have h32:TB W0 B n gs cs mask kB (Cx.num (iK m)) 32 wx:=by
  rcases hi with rfl|⟨h1,h2⟩
  ·exact h
  ·have:=h.past h1 (32-i)
   rwa [show i+(32-i)=32 by omega] at this
 obtain ⟨⟨ls,hl,hby,hown,hnum⟩,hg⟩:=h32;refine ⟨ls,hl,hby,hown,hg,?_⟩;have hb:=Cx.XV (b:=m) (s':=ls) (kB:=kB) hm hby (by omega) (by omega) (Cx.cut_lt kB 32 (8*n) hk) hnum;by_cases h0:Cx.cut mask kB 32 (8*n)=0
 ·rw[aZ h0] at hb
  exact Or.inl (zA hb).symm
 ·rw[bF h0] at hb
  exact Or.inr ⟨fun e=>(by rw[e,QU] at hb;cases hb),hb⟩
theorem Ca {mk l:List Nat}(h:behind mk l=none):kK mk l≠0:=by
 unfold behind at h;unfold kK
 cases ho:Cx.opened l with
 | none=>simp
 | some m =>
  rw[ho] at h;dsimp only at h ⊢
  split at h
  ·cases h
  ·rename_i hh
   rw[bF hh]
   decide
end Fx
namespace Fx
open Go Go.RowKit Go.Lib
open Pk (Bs By PR fW)
theorem yG:mP 28 19 168:=mP.of (by omega) (by omega) (by kernel_rfl)
theorem LW (x:eF):∀u∈fP x,u.oneCell'=true:=fun v hv=>by
 simp only[fP,List.mem_cons,bS,List.mem_map,List.not_mem_nil,or_false] at hv
 rcases hv with rfl|rfl|⟨z,_,rfl⟩|rfl <;> rfl
def iB:List (List Nat)→Option (List lA)×Int
 | []=>(some [],0)
 | t::ts=>match oI t with
  | (none,e)=>(none,e)
  | (some k,_)=>((iB ts).1.map (k :: ·),(iB ts).2)
def splitK (l:List Nat):Option (List lA)×Int:=match behind fQ l with
 | none=>(none,kK fQ l)
 | some r=>match fG 100 gO r 0 with
  | none=>(none,70)
  | some (ts,b)=>if b=r.length then iB ts else (none,70)
def rS (l:List Nat)(w:World)(e:Ending)(w':World):Prop:=(∃ (v:Value) (zs:List eF),e=.returned (.tuple #[v,.int .i64 (splitK l).2])∧fK 28 19 fP w' w.heap.size v zs∧(∀z∈zs,fF w.heap.size z w')∧zs.map eQ=(splitK l).1.getD [])∧Below w.heap.size w w'
theorem Ol:Good (fG 100 gO) (mA nO) (fun ks=>ks.length≤100∧∀k∈ks,By k∧k.length≤65536):=goodT.many (by omega)
theorem fF.low {B C:Nat}{c:eF}{W:World}(h:fF B c W)(hc:C≤B):fF C c W :=
 ⟨h.wf,h.objs.base hc,fun x hx=>⟨(h.each x hx).wf,(h.each x hx).v.base hc,(h.each x hx).t.base hc,(h.each x hx).vw,(h.each x hx).tw⟩⟩
theorem DD {ts:List (List Nat)}{k:Nat}{x:List Nat}{e:Int}{g:List lA}(hx:ts[k]?=some x)(hd:oI x=(none,e))(h:iB ts=((iB (ts.drop k)).1.map (g ++ ·),(iB (ts.drop k)).2)):iB ts=(none,e):=by
 obtain ⟨hl,he⟩:=aY.1 hx;rw[List.drop_eq_getElem_cons hl,he] at h;rw[h];simp only[iB,hd];rfl
theorem DC {ts:List (List Nat)}{k:Nat}{x:List Nat}{e:Int}{y:lA}{g:List lA}(hx:ts[k]?=some x)(hd:oI x=(some y,e))(h:iB ts=((iB (ts.drop k)).1.map (g ++ ·),(iB (ts.drop k)).2)):iB ts=((iB (ts.drop (k+1))).1.map ((g++[y]) ++ ·),(iB (ts.drop (k+1))).2):=by
 obtain ⟨hl,he⟩:=aY.1 hx;rw[List.drop_eq_getElem_cons hl,he] at h;rw[h];simp only[iB,hd]
 cases (iB (ts.drop (k+1))).1 <;> simp
theorem JZ {ts:List (List Nat)}{g:List lA}(h:iB ts=((iB (ts.drop ts.length)).1.map (g ++ ·),(iB (ts.drop ts.length)).2)):iB ts=(some g,0):=by
 rw[List.drop_length] at h;rw[h];simp[iB]
theorem Pd {r:List Nat}{ts:List (List Nat)}{a2:Nat}{lo2:Bool}(h2:eP false (fG 100 gO) r 0=opt lo2 (ts,a2))(hl:a2≤r.length) :
  (Pk.pB lo2 r.length a2=0→fG 100 gO r 0=some (ts,r.length))∧(Pk.pB lo2 r.length a2≠0→∀k b,fG 100 gO r 0=some (k,b)→b≠r.length):=by
 have e1:eP false (fG 100 gO) r 0=fG 100 gO r 0:=rfl;rw[e1] at h2;unfold Pk.pB
 cases lo2
 ·simp only[opt,bD,if_false,false_or] at h2 ⊢
  refine ⟨fun h=>?_,fun h k b hk=>?_⟩
  ·split at h
   ·cases h
   ·rw[h2,show a2=r.length by omega]
  ·split at h
   ·rw[h2] at hk
    cases hk;omega
   ·exact absurd rfl h
 ·simp only[opt,if_true,true_or] at h2 ⊢
  exact ⟨fun h=>(by cases h),fun _ k b hk=>by rw[h2] at hk;cases hk⟩
theorem PY {l r:List Nat}(h:behind fQ l=some r)(hn:∀k b,fG 100 gO r 0=some (k,b)→b≠r.length):splitK l=(none,70):=by
 unfold splitK;rw[h];dsimp only
 cases hp:fG 100 gO r 0 with
 | none=>rfl
 | some q =>
  obtain ⟨k,b⟩:=q;dsimp only;rw[bF (hn k b hp)]
theorem JQ {l r:List Nat}(h:behind fQ l=some r){ts:List (List Nat)}(hn:fG 100 gO r 0=some (ts,r.length)):splitK l=iB ts:=by
 unfold splitK;rw[h];dsimp only;rw[hn];dsimp only;rw[aZ rfl]
structure AB (zs:List AA)(W0:World)(v:Value)(fs:List eF)(W:World):Prop where
 gL:Below W0.heap.size W0 W
 own:fK 28 19 fP W W0.heap.size v fs
 each:∀z∈fs,fF W0.heap.size z W
theorem AB.up {zs:List AA}{W0:World}{v:Value}{fs:List eF}{W X:World}(i:AB zs W0 v fs W)(h:Below W.heap.size W X):AB zs W0 v fs X :=
 ⟨dN i.gL h,i.own.below h,fun z hz=>(i.each z hz).rows (Rows.of_below h) (Rows.of_below h) (Rows.of_below h)⟩
theorem AB.app {zs:List AA}{W0:World}{v v':Value}{fs:List eF}{t:eF}{W X:World}(i:AB zs W0 v fs W)(hf:fF W0.heap.size t W)(ho:fK 28 19 fP X W0.heap.size v' (fs++[t]))(hg:W.grownBy X v.ownBlock):AB zs W0 v' (fs++[t]) X:=by
 have hr:∀ {u:TypeId},u≠28→Rows u W X:=fun hne=>Rows.iL hg (fun k hk=>i.own.row k hk) hne
 refine ⟨i.gL.grown hg i.gL.size (fun k hk=>i.own.blk k hk),ho,fun z hz=>?_⟩
 rcases bS.1 hz with hz|hz
 ·exact (i.each z hz).rows (hr (by decide)) (hr (by decide)) (hr (by decide))
 ·simp at hz
  subst hz;exact hf.rows (hr (by decide)) (hr (by decide)) (hr (by decide))
theorem DJ (l:List Nat)(o:Option Addr)(c:Nat)(w:World)(hl:By l)(hlen:l.length≤900000)(hc:l.length≤c)(hc2:c≤9223372036854775807)(hb:Bs w o l) :
  Calls prog 24 #[.slice o l.length c] w (rS l w):=by
 have HO:=aA (zC fQ xG (by decide) l o c w hl hlen hc hc2 hb);rw[show Pk.fR fQ=⟨#[109,117,108,102]⟩ from rfl] at HO;have yA:=aA (show ∀r,behind fQ l=some r→By r∧r.length≤900000 from fun r hr=>by
  refine ⟨vC hl hr,?_⟩;have:=pZ hr;have:=congrArg List.length this;unfold iK at this;simp only[aI] at this;omega)
 have qO:Hid (∀ec X,splitK l=(none,ec)→Below w.heap.size w X→rS l w (.returned (.tuple #[.slice none 0 0,.int .i64 ec])) X):=aA (fun ec X he hb=>by
  unfold rS;rw[he];exact ⟨⟨_,[],rfl,fK.nil _ _ _ _ _,fun z hz=>by simp at hz,rfl⟩,hb⟩)
 have xV:Hid (∀v fs X,splitK l=(some (fs.map eQ),0)→fK 28 19 fP X w.heap.size v fs→(∀z∈fs,fF w.heap.size z X)→Below w.heap.size w X→rS l w (.returned (.tuple #[v,.int .i64 0])) X):=aA (fun v fs X he ho hf hb=>by
  unfold rS;rw[he];exact ⟨⟨_,fs,rfl,ho,hf,rfl⟩,hb⟩)
 clear hl hlen hc hc2 hb;unfold KY at HO
 cases pW:behind fQ l with
 | none =>
  have HE:Hid (splitK l=(none,kK fQ l)):=aA (by unfold splitK;rw[pW]);have hnz:=Ca pW;simp only[pW] at HO;generalize kK fQ l=ec at HO hnz HE;clear pW xV yA;have HR:=aA (qO.out ec · HE.out);generalize l.length=n at *;go_enter func24,ntmps24;go_wp2_with (first|go_step3|fail)
  refine HO.out.mono ?_;rintro e w1 ⟨hb1,rfl⟩;have HB:=aA hb1;clear hb1 HO;go_wp2_with (first|go_step3|fail)
  try rw[Exit.noGoto_ret]
  go_ret2;exact HR.out _ HB.out
 | some r =>
  have hbr:=yA.out r pW;simp only[pW] at HO;have HKB:=aA hbr;have JD:=aA pW;clear hbr yA pW;go_enter func24,ntmps24;go_wp2_with (first|go_step3|fail)
  refine HO.out.mono ?_;rintro e w1 ⟨hb1,p,o1,c1,rfl,zT,hp,iE⟩;have k0:fW r 0:=⟨HKB.out.1,by have:=HKB.out.2;omega,by omega⟩;have HM:=aA (Us w.heap.size o1 c1 r p 0 false w1 hb1.size k0 zT (YH zT));have HK:=aA k0;have jK:=aA hb1;have zJ:=aA hp;clear hb1 zT hp iE k0 HO;go_wp2_with (first|go_step3|fail)
  refine HM.out.mono ?_;rintro e w4 h4;obtain ⟨hg4,v4,zs,a2,lo2,rfl,vP,Wj,NC,hl4,RZ⟩:=h4.use;obtain ⟨oo,oc,rfl,gR,tY⟩:=vP.form (fun z hz=>rfl);have hb4:Below w.heap.size w w4:=gZ (aB _) jK.out hg4 (fun k e=>by cases e;have:=zJ.out;omega);have hend:=Pd RZ hl4;have pG:=aA (Pk.QN o1 c1 r p a2 lo2 w4 (iH HK.out hl4) NC);have Ti:=aA hb4;have pF:=aA hend;have HLI:=aA tY;have lK:=aA Wj;obtain ⟨n,hn⟩:∃n,zs.length=n:=⟨_,rfl⟩;have Nt:=gR.1;rw[hn] at Nt ⊢;have HN:=aA hn;clear h4 hg4 vP NC hl4 RZ gR tY hb4 hend Wj hn HM jK zJ;generalize Ff:Pk.pB lo2 r.length a2=ec at pG pF;clear Ff;by_cases hz:ec=0
  ·subst hz
   have MZ:=pF.out.1 rfl;have Qx:=aA (JQ JD.out MZ);have hgf:=(Ol.get r 0 _ _ HKB.out.1 (cK _) MZ).1;have HGF:Hid (∀x∈zs,By x.l∧x.l.length≤65536):=aA (fun x hx=>hgf.2 x.l (List.mem_map.2 ⟨x,hx,rfl⟩));have n100:n≤100:=by have:=hgf.1;rw[aT,HN.out] at this;exact this
   have n0:(0:Int)≤(n:Int):=by omega
   have n1:(n:Int)≤100:=by omega
   obtain ⟨ts,Ry⟩:∃ts,zs.map AA.l=ts:=⟨_,rfl⟩;rw[Ry] at Qx;have Yl:=aA Ry;clear MZ pF JD hgf Ry;go_wp2_with (first|go_step3|fail)
   refine pG.out.mono ?_;rintro e w5 ⟨rfl,jT⟩;have AH:=aA (dN Ti.out jT);have HLI5:Hid (iX 31 1 LP w5 w1.heap.size oo zs):=aA ⟨fun k z hk=>by
    obtain ⟨g,cur,e1,e2,e3,e4,e5⟩:=HLI.out.at_ k z hk;exact ⟨g,cur,e1,e2,dL jT e3,e4,iC jT e5⟩⟩
   have HEL5:Hid (∀z∈zs,pN z w5):=aA (fun z hz=>(lK.out z hz).rows (Rows.of_below jT));clear jT pG HLI lK Ti;go_wp2_with (first|go_step3|fail)
   go_loopg[5,7,27] n (fun g s5 s7 s27 wx=>∃ (k:Nat) (v:Value) (fs:List eF),g=n-k∧s27=.int .i64 (k:Int)∧k≤n∧s5=.int .i64 0∧s7=v∧fs.length=k∧iB ts=((iB (ts.drop k)).1.map (fs.map eQ ++ ·),(iB (ts.drop k)).2)∧AB zs w5 v fs wx)
   case atStart=>exact ⟨0,_,[],rfl,rfl,by omega,rfl,rfl,rfl,by simp,⟨aJ _ _,fK.nil _ _ _ _ _,fun z hz=>by simp at hz⟩⟩
   case round =>
    obtain ⟨k,v,fs,rfl,rfl,hk,rfl,rfl,OT,yM,hi⟩:=hrel;have Hq:=aA OT;have Hs:=aA yM;have HI:=aA hi;obtain ⟨of,cf,rfl,_,_⟩:=hi.own.form (fun z hz=>by simp[fP,(hi.each z hz).wf.len]);clear OT yM hi;have k0:(0:Int)≤(k:Int):=by omega
    by_cases pK:k<n
    ·have t2:(k:Int)<(n:Int):=by omega
     obtain ⟨x,hx⟩:∃x,zs[k]?=some x:=⟨_,aF (by rw[HN.out];exact pK)⟩;obtain ⟨gt,cur,zU,_,hrow,_,SC⟩:=HLI5.out.at_ k x hx;have c0:wr.cell? ⟨gt,k,none⟩=some (.slice x.o x.l.length x.c):=by
      have h1:w5.cell? ⟨gt,0+k*1+0,none⟩=some (.slice x.o x.l.length x.c):=SC 0 _ rfl;have h2:=dE HI.out.gL h1
      simpa using h2
     have OS:=aX hx;have vR:pN x wr:=(HEL5.out x OS).rows (Rows.of_below HI.out.gL);obtain ⟨Nv,Nr,hcx2⟩:=vR.bs;obtain ⟨Nu,hlx⟩:=HGF.out x OS;have Yu:=aA (QP x.l x.o x.c wr Nu (by omega) Nr hcx2 Nv);unfold KZ at Yu;have HXT:Hid (ts[k]?=some x.l):=aA (by rw[←Yl.out,bZ,hx];rfl);obtain ⟨xl,Rv⟩:∃m,x.l.length=m:=⟨_,rfl⟩;rw[Rv] at Yu c0 Nr;subst zU;clear hx hrow SC OS vR Nv Nu hlx Rv;go_wp2_with fail;refine Yu.out.mono ?_;rintro e w6 ⟨⟨t,rfl,BJ,hkey⟩,KL⟩;obtain ⟨V1,hV1⟩:∃V,w6.alloc (.cells #[.int .i64 0,.int .i64 0,.int .i64 0,.int .i64 0,.int .i64 0,.int .i64 0,.int .i64 0,.int .i64 0,.int .i64 0,.int .i64 0,.int .i64 0,.int .i64 0,.int .i64 0,.int .i64 0,.int .i64 0,.int .i64 0,.int .i64 0,.int .i64 0,.slice none 0 0] 28)=V:=⟨_,rfl⟩;obtain ⟨V2,hV2⟩:∃V,V1.setRow w6.heap.size (eU t)=V:=⟨_,rfl⟩;have r1:dI 28 w6.heap.size #[.int .i64 0,.int .i64 0,.int .i64 0,.int .i64 0,.int .i64 0,.int .i64 0,.int .i64 0,.int .i64 0,.int .i64 0,.int .i64 0,.int .i64 0,.int .i64 0,.int .i64 0,.int .i64 0,.int .i64 0,.int .i64 0,.int .i64 0,.int .i64 0,.slice none 0 0] V1:=by rw[←hV1];exact dI.new _ _ _
     have r2:V2.heap[w6.heap.size]?=some (.cells (eU t) 28 (0,0)):=by rw[←hV2];exact setRow_heap _ _ _ _ _ _ r1
     have b2:Below w6.heap.size w6 V2:=by rw[←hV2,←hV1];exact Below.row ((aJ _ _).alloc (aB _) _) (aB _) _
     have Hj:=aA r1;have ni:Hid (V2.rangeAt w6.heap.size 0 (fP t)):=aA (fun j u hj=>by rw[bE];exact (show eZ w6.heap.size t V2 from r2).at.trans hj);have YN:=aA ((HI.out.up KL).up b2);have qw:Hid (fF w5.heap.size t V2):=aA ((BJ.rows (Rows.of_below b2) (Rows.of_below b2) (Rows.of_below b2)).low HI.out.gL.size);have hi:=aA (oU BJ.wf);have Nj:=aA (JR t BJ.wf (.slice t.oo t.os.length t.oc));have Rz:=aA (show 19=(eU t).size from (sH BJ.wf (.slice t.oo t.os.length t.oc)).symm);have Sd:=aA (show (eU t).all (·.oneCell')=true from nA t (.slice t.oo t.os.length t.oc) rfl);have qR:Hid ((fP t).length=19):=aA (lR BJ.wf);have vF:=aA hV1;have oM:=aA hV2;have Rm:=aA hkey;clear r1 r2 b2 BJ hkey KL hV1 hV2 Yu HI
     cases hd:oI x.l with
     | mk kk ec =>
      rw[hd] at Rm
      cases kk with
      | none =>
       have Ff:=Br hd;have Qy:=aA (Qx.out.trans (DD HXT.out hd Hs.out));have HR:=aA (qO.out ec V2 Qy.out (dN AH.out YN.out.gL));clear hd Rm Qy YN qw;dsimp only;go_wp2_with (first|(rw[vF.out])|(rw[oM.out])|(refine dG rfl 28 (.tmp 10) (.tmp 34) rfl w6.heap.size _ _ (eU t) rfl rfl Hj.out Nj.out Rz.out Sd.out ?_)|go_step3)
       try rw[Exit.noGoto_ret]
       go_ret2;exact HR.out
      | some y =>
       have Ff:ec=0:=by
        unfold oI at hd
        split at hd
        ·cases hd
        ·split at hd
         ·cases hd
         ·split at hd
          ·split at hd
           ·cases hd;rfl
           ·cases hd
          ·cases hd
       subst Ff;have hky:eQ t=y:=Rm.out;have Zc:=aA (DC HXT.out hd Hs.out);have HKY:=aA hky;clear hd Rm hky Hs;obtain ⟨V3,oG⟩:∃V,V2.alloc (.cells (fP t).toArray 28)=V:=⟨_,rfl⟩;have hb3:Below V2.heap.size V2 V3:=by rw[←oG];exact (aJ _ _).alloc (aB _) _
       have mG:=aA (show V3.heap[V2.heap.size]?=some (.cells (fP t).toArray 28 (0,0)) by rw[←oG];exact aG _ _);have Ct:=aA (YN.out.up hb3);have qx:Hid (fF w5.heap.size t V3):=aA (qw.out.rows (Rows.of_below hb3) (Rows.of_below hb3) (Rows.of_below hb3));have GV:=aA oG;clear oG hb3;dsimp only;go_wp2_with (first|(rw[vF.out])|(rw[oM.out])|(refine dG rfl 28 (.tmp 10) (.tmp 34) rfl w6.heap.size _ _ (eU t) rfl rfl Hj.out Nj.out Rz.out Sd.out ?_)|(rw[GV.out])|(with_reducible refine dQ (some 40) rfl ?_;refine aA ?_;refine wpList_load_mid rfl 28 (.tmp 10) rfl w6.heap.size 0 rfl (fP t) _ ni.out aW rfl hi.out ?_)|(with_reducible refine dQ (some 41) rfl ?_;refine aA ?_;refine jC yG (by omega) rfl (.tmp 40) 52 rfl cW (fP t).toArray rfl (by rw[aL];exact qR.out) ?_)|(at_builtin;refine pD yG rfl (.tmp 39) (.tmp 41) 52 rfl cW w5.heap.size (.slice of fs.length cf) fs [t] rfl Ct.out.gL.size Ct.out.own (some ⟨V2.heap.size,0,none⟩) 1 rfl (fun h=>by cases h) (kE mG.out) (fun z hz=>by simp at hz;subst hz;exact qR.out) (fun z _=>LW z) (by have:=Hq.out;simp;omega) ?_))
       intro v' w7 Mr jf;refine aA ?_;have Ho:Hid (AB zs w5 v' (fs++[t]) w7):=aA (Ct.out.app qx.out Mr jf);obtain ⟨ow,cw,tB,_,_⟩:=Mr.form (fun z hz=>by simp[fP,(Ho.out.each z hz).wf.len]);subst tB;clear Mr jf Ct qx;obtain ⟨ml,jH⟩:∃ml,(fs++[t]).length=ml:=⟨_,rfl⟩;rw[jH] at Ho ⊢;clear jH;go_wp2_with fail;go_roundg (n-(k+1))
       case measure=>omega
       case rel=>exact ⟨k+1,_,fs++[t],rfl,by go_num,by omega,rfl,rfl,by simp[Hq.out],by rw[Zc.out,List.map_append];simp[HKY.out],Ho.out⟩
    ·obtain rfl:k=n:=by omega
     have t2:¬ (k:Int)<(k:Int):=by omega
     have hsk:splitK l=(some (fs.map eQ),0):=Qx.out.trans (JZ (by
      have h1:ts.length=k:=by rw[←Yl.out,aT,HN.out]
      rw[h1];exact Hs.out))
     have HR:=aA (xV.out _ fs wr hsk (HI.out.own.base AH.out.size) (fun z hz=>(HI.out.each z hz).low AH.out.size) (dN AH.out HI.out.gL));clear hsk HI;go_wp2_with (first|go_step3|fail)
     try rw[Exit.noGoto_ret]
     go_ret2;exact HR.out
  ·have Qx:=aA (PY JD.out (pF.out.2 hz))
   clear pF JD;go_wp2_with (first|go_step3|fail)
   refine pG.out.mono ?_;rintro e w5 ⟨rfl,jT⟩;have HR:=aA (qO.out 70 w5 Qx.out (dN Ti.out jT));clear jT pG;go_wp2_with (first|go_step3|fail)
   try rw[Exit.noGoto_ret]
   go_ret2;exact HR.out
end Fx
namespace Fx
open Go Go.RowKit Go.Lib
open Pk (Bs By)
theorem Fw (ks:List lA):oZ ks=mA nO (ks.map jO):=by
 unfold oZ mA;rw[aT,List.flatMap_map];rfl
theorem JY:∀ {ts:List (List Nat)} {ks:List lA} {e:Int},(∀t∈ts,By t)→iB ts=(some ks,e)→ts=ks.map jO∧e=0∧∀k∈ks,zi k=true
 | [],ks,e,_,h=>by
  unfold iB at h
  cases h;exact ⟨rfl,rfl,fun k hk=>by simp at hk⟩
 | t::ts,ks,e,hb,h=>by
  unfold iB at h
  cases hd:oI t with
  | mk kk ec =>
   rw[hd] at h
   cases kk with
   | none=>cases h
   | some k =>
    obtain ⟨h1,h2,h3⟩:=Gn (hb t (List.mem_cons_self ..)) hd;dsimp only at h
    cases hr:iB ts with
    | mk kk2 e2 =>
     rw[hr] at h
     cases kk2 with
     | none=>cases h
     | some ks2 =>
      obtain ⟨g1,g2,g3⟩:=JY (fun x hx=>hb x (List.mem_cons_of_mem _ hx)) hr
      cases h;refine ⟨by rw[List.map_cons,h1,←g1],g2,fun x hx=>?_⟩
      rcases List.mem_cons.1 hx with rfl|hx
      ·exact h3
      ·exact g3 x hx
theorem VP {l:List Nat}{ks:List lA}{e:Int}(hl:By l)(h:splitK l=(some ks,e)):FL ks=l∧e=0∧(∀k∈ks,zi k=true)∧ks.length≤100:=by
 unfold splitK at h
 cases hb:behind fQ l with
 | none=>rw[hb] at h;cases h
 | some r =>
  rw[hb] at h;dsimp only at h
  cases hp:fG 100 gO r 0 with
  | none=>rw[hp] at h;cases h
  | some q =>
   obtain ⟨ts,b⟩:=q;rw[hp] at h;dsimp only at h
   split at h
   ·rename_i hbr
    subst hbr;have hbyr:=vC hl hb;obtain ⟨⟨g0,g1⟩,g2,g3,_⟩:=Ol.get r 0 ts _ hbyr (cK _) hp;obtain ⟨h1,h2,h3⟩:=JY (fun t ht=>(g1 t ht).1) h;refine ⟨?_,h2,h3,by rw[h1,aT] at g0;exact g0⟩;unfold FL;rw[Fw,←h1];have hr:r=mA nO ts:=by rw[List.drop_zero,List.drop_length,List.append_nil] at g2;exact g2
    rw[←hr];exact pZ hb
   ·cases h
theorem LU {W:World}{B C:Nat}{v:Value}{zs:List eF}(h:fK 28 19 fP W B v zs)(hf:∀z∈zs,fF C z W):∃o c,v=.slice o zs.length c∧pJ o zs.length c∧pE W o zs:=by
 obtain ⟨o,c,e,hc,hl⟩:=h.form (fun z hz=>lR (hf z hz).wf);refine ⟨o,c,e,hc,fun k z hk=>?_⟩;obtain ⟨g,cur,e1,_,_,_,h5⟩:=hl.at_ k z hk;have hz:=hf z (aX hk);exact ⟨g,0,e1,h5,hz.at,hz.wf⟩
structure RkI (xs:List eF)(o:Option Addr)(l:List Nat)(ob:Option Addr)(w W:World):Prop where
 sc:pE W o xs
 bs:Bs W ob l
 gL:Below w.heap.size w W
theorem RkI.up {xs:List eF}{o ob:Option Addr}{l:List Nat}{w W X:World}(i:RkI xs o l ob w W)(h:Below W.heap.size W X):RkI xs o l ob w X:=⟨i.sc.below h,i.bs.below h,dN i.gL h⟩
end Fx
namespace Fx
open Go Go.RowKit Go.Lib
open Pk (Bs By iO)
theorem Lu {W:World}{g:Nat}{t:TypeId}{f:Nat×Nat}{l:List Nat}(h:W.heap[g]?=some (.cells (l.map Pk.fO).toArray t f)):Bs W (some ⟨g,0,none⟩) l:=fun j hj=>⟨g,0,rfl,by
 rw[bE,aD _ _ _ _ _ _ h];simp[hj,Pk.fO,List.getD]⟩
end Fx
end Go.Proofs.YtbbhmhihpdmoiaaGreat
