import Derived.Test.YtbbhmhihpdmoiaaGreatJf04
set_option linter.unusedVariables false
set_option linter.unusedSimpArgs false
set_option maxRecDepth 100000
set_option maxHeartbeats 32000000
namespace Go.Proofs.YtbbhmhihpdmoiaaGreat
open Go.Proofs.Tryz
namespace Fx
open Go Go.RowKit
def eZ (B:Nat)(s:eF)(W:World):Prop:=W.heap[B]?=some (.cells (eU s) 28 (0,0))
theorem eZ.new (w:World)(s:eF):eZ w.heap.size s (w.alloc (.cells (eU s) 28)):=aG _ _
theorem eZ.below {B:Nat}{s:eF}{w W:World}(hb:Below w.heap.size w W)(h:eZ B s w):eZ B s W:=dL hb h
theorem eZ.at {B j:Nat}{s:eF}{W:World}(h:eZ B s W):W.cell? ⟨B,j,none⟩=(fP s)[j]?:=by
 rw[aD _ _ _ _ _ _ h];simp[eU]
theorem eZ.c0 {B:Nat}{s:eF}{W:World}(h:eZ B s W):W.cell? ⟨B,0,none⟩=some (.int .i64 s.w):=h.at
theorem eZ.c1 {B:Nat}{s:eF}{W:World}(h:eZ B s W):W.cell? ⟨B,1,none⟩=some (.int .i64 s.h):=h.at
theorem eZ.c18 {B:Nat}{s:eF}{W:World}(h:eZ B s W)(hs:iA s):W.cell? ⟨B,18,none⟩=some (.slice s.oo s.os.length s.oc):=h.at.trans (xq hs)
theorem eZ.jN {B:Nat}{s:eF}{W:World}(h:eZ B s W):W.rangeAt B 2 (s.jN.map encI):=fun j v hj=>h.at.trans (Uo hj)
theorem nR.c0 {W:World}{b j:Nat}{x:eE}(h:nR W b j x):W.cell? ⟨b,j,none⟩=some (.int .i64 x.id):=h.cells 0 _ (uW x)
theorem nR.c17 {W:World}{b j:Nat}{x:eE}(h:nR W b j x):W.cell? ⟨b,j+17,none⟩=some (.slice x.vo x.vs.length x.vc):=h.cells 17 _ (nB h.wf)
theorem nR.c18 {W:World}{b j:Nat}{x:eE}(h:nR W b j x):W.cell? ⟨b,j+18,none⟩=some (.slice x.tq x.ts.length x.tc):=h.cells 18 _ (nC h.wf)
theorem nR.GJ {W:World}{b j:Nat}{x:eE}(h:nR W b j x):W.rangeAt b (j+1) (x.m.map encI):=fun i v hi=>by
 rw[Nat.add_assoc];exact h.cells (1+i) _ (DX hi)
def bI (b:Bool):Int:=if b then 1 else 0
def TU (x:eE):Bool:=decide (80<x.vs.length) || decide (80<x.ts.length)
def kI (s:eF):Bool:=decide (20<s.os.length) || s.os.any TU
theorem VE (s:eF)(w:World)(hs:iA s)(h:eN w s.oo s.os) :
  Calls prog 10 #[.agg (eU s)] w fun e w'=>e=.returned (.int .i64 (bI (kI s)))∧Below w.heap.size w w':=by
 have HB:Hid (Below w.heap.size w (w.alloc (.cells (eU s) 28))):=aA (by go_grown);have HO:=aA (h.below HB.out);have c18:(w.alloc (.cells (eU s) 28)).cell? ⟨w.heap.size,18,none⟩=some (.slice s.oo s.os.length s.oc):=(eZ.new w s).c18 hs;have gR:=hs.cap.1;clear h hs;by_cases h2:20<s.os.length
 ·have e:kI s=true:=by unfold kI;rw[bA h2];rfl
  have t1:(20:Int)<(s.os.length:Int):=by omega
  rw[e];clear h2 e;go_enter func10,ntmps10;go_wp2_with fail;go_ret;exact ⟨rfl,HB.out⟩
 ·have t1:¬ (20:Int)<(s.os.length:Int):=by omega
  have HG:Hid (kI s=s.os.any TU):=aA (by unfold kI;rw[aN h2];rfl);obtain ⟨n,hn⟩:∃n,s.os.length=n:=⟨_,rfl⟩;have HN:=aA hn;have hn200:n≤20:=by omega
  rw[hn] at t1 c18;have n0:(0:Int)≤(n:Int):=by omega
  have n1:(n:Int)≤20:=by omega
  clear h2 hn gR;go_enter func10,ntmps10;go_wp2_with fail;generalize (w.alloc (.cells (eU s) 28))=V at HB HO c18 ⊢
  go_loop [3] (fun u=>∃k:Nat,u=.int .i64 (k:Int)∧k≤n∧(s.os.take k).any TU=false) (fun u=>n-(intOf u).toNat)
  case atStart=>exact ⟨0,rfl,by omega,rfl⟩
  case round =>
   obtain ⟨k,rfl,hk,ha⟩:=hrel;have HA:=aA ha;clear ha;have k0:(0:Int)≤(k:Int):=by omega
   by_cases pK:k<n
   ·have t2:(k:Int)<(n:Int):=by omega
    have wI:k<s.os.length:=by rw[HN.out];exact pK
    obtain ⟨x,hx⟩:∃x,s.os[k]?=some x:=⟨_,aF wI⟩;obtain ⟨b,off,e,hat⟩:=HO.out k x hx;have d17:=hat.c17;have Ii:=hat.c18;have HS:Hid ((s.os.take (k+1)).any TU=TU x):=aA (by
     rw[bX,hx,List.any_append,HA.out];simp)
    have HXX:Hid (TU x=true→kI s=true):=aA (fun h=>by
     rw[HG.out,List.any_eq_true];exact ⟨x,aX hx,h⟩)
    have Tg:Hid (TU x=(decide (80<x.vs.length) || decide (80<x.ts.length))):=aA rfl;have hv1:=hat.wf.LJ.1;have hv2:=hat.wf.ID.1;obtain ⟨m,hm⟩:∃m,x.vs.length=m:=⟨_,rfl⟩;obtain ⟨m2,lL⟩:∃m,x.ts.length=m:=⟨_,rfl⟩;rw[hm] at Tg d17 hv1;rw[lL] at Tg Ii hv2;rw[e] at c18;clear hx hat hm lL e;by_cases h3:80<m
    ·have t3:(80:Int)<(m:Int):=by omega
     go_wp2_with fail;go_ret;exact ⟨by rw[HXX.out (by rw[Tg.out,bA h3];rfl)];rfl,HB.out⟩
    ·have t3:¬ (80:Int)<(m:Int):=by omega
     by_cases h4:80<m2
     ·have t4:(80:Int)<(m2:Int):=by omega
      go_wp2_with fail;go_ret;exact ⟨by rw[HXX.out (by rw[Tg.out,bA h4,aN h3];rfl)];rfl,HB.out⟩
     ·have t4:¬ (80:Int)<(m2:Int):=by omega
      go_wp2_with fail
      go_round
      case rel=>exact ⟨k+1,by go_num,by omega,by rw[HS.out,Tg.out,aN h3,aN h4];rfl⟩
      case measure=>simp[intOf];omega
   ·obtain rfl:k=n:=by omega
    have t2:¬ (k:Int)<(k:Int):=by omega
    have HE:Hid (kI s=false):=aA (by rw[HG.out];have:=HA.out;rw[bB (by rw[HN.out];omega)] at this;exact this);go_wp2_with fail;go_ret;exact ⟨by rw[HE.out];rfl,HB.out⟩
def lD (l:List eE)(id:Int):Option Nat:=l.findIdx? fun x=>decide (x.id=id)
def Cj (o:Option Nat)(w:World)(e:Ending)(w':World):Prop:=e=.returned (.tuple #[.int .i64 ((o.getD 0:Nat):Int),.bool o.isSome])∧Below w.heap.size w w'
def nU (n:Int):Bool:=decide (1073741824<n) || decide (n < -1073741824)
theorem CJ (n:Int)(w:World):Calls prog 134 #[.int .i64 n] w fun e w'=>e=.returned (.bool (nU n))∧w'=w:=by
 by_cases h1:1073741824<n
 ·have e:nU n=true:=by unfold nU;rw[bA h1];rfl
  rw[e];clear e;go_enter func134,ntmps134;go_wp2_with fail;go_ret;exact ⟨rfl,rfl⟩
 ·by_cases h2:n < -1073741824
  ·have e:nU n=true:=by unfold nU;rw[bA h2,Bool.or_true]
   rw[e];clear e;go_enter func134,ntmps134;go_wp2_with fail;go_ret;exact ⟨rfl,rfl⟩
  ·have e:nU n=false:=by unfold nU;rw[aN h1,aN h2];rfl
   rw[e];clear e;go_enter func134,ntmps134;go_wp2_with fail;go_ret;exact ⟨rfl,rfl⟩
theorem nL (x:eE):(dP x).toArray.all (·.oneCell')=true:=by
 rw[List.all_toArray,bU];intro v hv;unfold dP at hv
 rcases List.mem_cons.1 hv with rfl|hv
 ·rfl
 rcases bS.1 hv with hv|hv
 ·obtain ⟨z,_,rfl⟩:=List.mem_map.1 hv
  rfl
 ·rcases List.mem_cons.1 hv with rfl|hv
  ·rfl
  rcases List.mem_cons.1 hv with rfl|hv
  ·rfl
  cases hv
structure wR (s:eF)(x:eE)(w V:World):Prop where
 sc:eZ w.heap.size s V
 xr:V.heap[w.heap.size+1]?=some (.cells (dP x).toArray 73 (0,0))
 ob:eN V s.oo s.os
 vs:fH V x.vo x.vs
 ts:gM V x.tq x.ts
 gL:Below w.heap.size w V
theorem wR.up {s:eF}{x:eE}{w V X:World}(i:wR s x w V)(hb:Below V.heap.size V X):wR s x w X :=
 ⟨i.sc.below hb,dL hb i.xr,i.ob.below hb,i.vs.below hb,i.ts.below hb,dN i.gL hb⟩
theorem wR.new {s:eF}{x:eE}{k:Nat}{w:World}(hs:iA s)(h:eN w s.oo s.os)(hx:s.os[k]?=some x):wR s x w ((w.alloc (.cells (eU s) 28)).alloc (.cells (dP x).toArray 73)):=by
 have hB:Below w.heap.size w ((w.alloc (.cells (eU s) 28)).alloc (.cells (dP x).toArray 73)):=by go_grown
 obtain ⟨b,off,e,hat⟩:=h k x hx;refine ⟨dM (eZ.new w s),?_,h.below hB,hat.sT.below hB,hat.zM.below hB,hB⟩;have:=aG (w.alloc (.cells (eU s) 28)) (.cells (dP x).toArray 73);rw[aR] at this;exact this
theorem wR.at {s:eF}{x:eE}{w V:World}{j:Nat}(i:wR s x w V):V.cell? ⟨w.heap.size+1,j,none⟩=(dP x)[j]?:=by
 rw[aD _ _ _ _ _ _ i.xr];simp
theorem wR.x0 {s:eF}{x:eE}{w V:World}(i:wR s x w V):V.cell? ⟨w.heap.size+1,0,none⟩=some (.int .i64 x.id):=i.at
theorem wR.x17 {s:eF}{x:eE}{w V:World}(i:wR s x w V)(hw:jY x):V.cell? ⟨w.heap.size+1,17,none⟩=some (.slice x.vo x.vs.length x.vc):=i.at.trans (nB hw)
theorem wR.x18 {s:eF}{x:eE}{w V:World}(i:wR s x w V)(hw:jY x):V.cell? ⟨w.heap.size+1,18,none⟩=some (.slice x.tq x.ts.length x.tc):=i.at.trans (nC hw)
theorem wR.GJ {s:eF}{x:eE}{w V:World}(i:wR s x w V):V.rangeAt (w.heap.size+1) 1 (x.m.map encI):=fun j v hj=>i.at.trans (DX hj)
theorem wR.jN {s:eF}{x:eE}{w V:World}(i:wR s x w V):V.rangeAt w.heap.size 2 (s.jN.map encI):=i.sc.jN
def rL (v:List Int):Bool:=!(nU (v.getD 0 0) || nU (v.getD 1 0) || nU (v.getD 2 0))
def rM (n:Int)(t:gB):Bool:=!(decide (t.a<0) || decide (t.b<0) || decide (t.c<0) || decide (n≤t.a) || decide (n≤t.b) || decide (n≤t.c))
def rF (s:eF)(x:eE)(k:Nat):Bool:=(s.os.take k).all (fun y=>decide (y.id≠x.id)) && (decide (1≤x.id) && decide (x.id≤65535))
def tW (s:eF)(x:eE)(k:Nat):Bool:=x.vs.all rL && decide ((x.vs.length:Int)≤64)
def tV (s:eF)(x:eE)(k:Nat):Bool:=x.ts.all (rM (x.vs.length:Int)) && decide ((x.ts.length:Int)≤64)
theorem FW {α:Type}{l:List α}{p:α→Bool}{k:Nat}{x:α}(hx:l[k]?=some x)(h:(l.take k).all p=true):(l.take (k+1)).all p=p x:=by
 rw[bX,hx,List.all_append,h];simp
theorem YA {α:Type}{l:List α}{p:α→Bool}{k:Nat}{x:α}(hx:l[k]?=some x)(h:p x=false):l.all p=false:=by
 rw[List.all_eq_false];exact ⟨x,aX hx,by simp[h]⟩
theorem Tp (s:eF)(x:eE)(k:Nat)(w:World)(hs:iA s)(h:eN w s.oo s.os)(hx:s.os[k]?=some x) :
  Calls prog 105 #[.agg (eU s),.int .i64 (k:Int),.int .i64 7] w (fJ (tW s x k) w):=by
 have HI:Hid (wR s x w ((w.alloc (.cells (eU s) 28)).alloc (.cells (dP x).toArray 73))):=aA (wR.new hs h hx);obtain ⟨b,off,e,lX⟩:=h k x hx;have hat:=lX.below (show Below w.heap.size w (w.alloc (.cells (eU s) 28)) by go_grown);have HR:=aA hat.cells;have HX:=aA hat.wf;have lW:=aA (show (prog.info? 73).map (·.size)=some (dP x).length by rw[dX hat.wf];kernel_rfl);have oY:=aA (show (prog.info? 73).map (·.size)=some (dP x).toArray.size by rw[aL,dX hat.wf];kernel_rfl);have HL:=aA (show 19=(dP x).toArray.size by rw[aL,dX hat.wf]);have mX:=aA (nL x);have c18:(w.alloc (.cells (eU s) 28)).cell? ⟨w.heap.size,18,none⟩=some (.slice s.oo s.os.length s.oc):=(eZ.new w s).c18 hs;have wI:k<s.os.length:=(aY.1 hx).1;have gR:=hs.cap.1;rw[e] at c18;obtain ⟨n,hn⟩:∃n,s.os.length=n:=⟨_,rfl⟩;rw[hn] at c18 gR wI;have n0:(0:Int)≤(n:Int):=by omega
 have n1:(n:Int)≤9223372036854775807:=by omega
 have k0:(0:Int)≤(k:Int):=by omega
 have k1:(k:Int)<(n:Int):=by omega
 clear hn hs h hx hat lX wI gR e;go_enter func105,ntmps105;go_wp2_with (first|(refine wpList_load_mid rfl 73 (.tmp 22) rfl b (off+k*19) rfl (dP x) _ HR.out bW rfl lW.out ?_)|(refine eJ rfl 73 (.tmp 7) (.tmp 23) rfl (w.heap.size+1) _ _ (dP x).toArray rfl (aR _ _) rfl oY.out HL.out mX.out ?_;generalize ((w.alloc (.cells (eU s) 28)).alloc (.cells (dP x).toArray 73))=V at HI ⊢;clear c18 HR;have c17:=HI.out.x17 HX.out))
 have hvc:=HX.out.LJ.1;obtain ⟨m,hm⟩:∃m,x.vs.length=m:=⟨_,rfl⟩;have HM:=aA hm;rw[hm] at c17 hvc;have m0:(0:Int)≤(m:Int):=by omega
 have m1:(m:Int)≤9223372036854775807:=by omega
 clear hm hvc
 go_loop [12] (fun u=>∃i:Nat,u=.int .i64 (i:Int)∧i≤m∧(x.vs.take i).all rL=true) (fun u=>m-(intOf u).toNat)
 case atStart=>exact ⟨0,rfl,by omega,rfl⟩
 case round =>
  obtain ⟨i,rfl,hi,ha⟩:=hrel;have HA:=aA ha;clear ha;have i0:(0:Int)≤(i:Int):=by omega
  by_cases him:i<m
  ·have t2:(i:Int)<(m:Int):=by omega
   have hil:i<x.vs.length:=by rw[HM.out];exact him
   obtain ⟨v,hv⟩:∃v,x.vs[i]?=some v:=⟨_,aF hil⟩;obtain ⟨b2,off2,e2,hrg,tB⟩:=HI.out.vs i v hv;have hl:=tB.len;have d0:V.cell? ⟨b2,off2+i*3,none⟩=some (.int .i64 (v.getD 0 0)):=hrg 0 _ (by rw[bZ,aF (by omega)];simp[encI,List.getD,aF (show 0<v.length by omega)]);have d1:V.cell? ⟨b2,off2+i*3+1,none⟩=some (.int .i64 (v.getD 1 0)):=hrg 1 _ (by rw[bZ,aF (by omega)];simp[encI,List.getD,aF (show 1<v.length by omega)]);have d2:V.cell? ⟨b2,off2+i*3+2,none⟩=some (.int .i64 (v.getD 2 0)):=hrg 2 _ (by rw[bZ,aF (by omega)];simp[encI,List.getD,aF (show 2<v.length by omega)]);have HF:Hid (rL v = !(nU (v.getD 0 0) || nU (v.getD 1 0) || nU (v.getD 2 0))):=aA rfl;have HT:=aA (FW hv HA.out);have sQ:Hid (rL v=false→tW s x k=false):=aA (fun h=>by unfold tW;rw[YA hv h];rfl);rw[e2] at c17;clear hv hrg tB hl e2;generalize v.getD 0 0=z0 at d0 HF;generalize v.getD 1 0=z1 at d1 HF;generalize v.getD 2 0=z2 at d2 HF;obtain ⟨f0,hf0⟩:∃f,nU z0=f:=⟨_,rfl⟩;obtain ⟨f1,hf1⟩:∃f,nU z1=f:=⟨_,rfl⟩;obtain ⟨f2,hf2⟩:∃f,nU z2=f:=⟨_,rfl⟩;have F0:=aA (fun W=>hf0▸CJ z0 W);have F1:=aA (fun W=>hf1▸CJ z1 W);have F2:=aA (fun W=>hf2▸CJ z2 W);rw[hf0,hf1,hf2] at HF;clear hf0 hf1 hf2;go_wp2_with fail;refine (F0.out _).mono ?_;rintro e w1 ⟨rfl,rfl⟩;go_wp2_with fail;refine (F1.out _).mono ?_;rintro e w1 ⟨rfl,rfl⟩;go_wp2_with fail;refine (F2.out _).mono ?_;rintro e w1 ⟨rfl,rfl⟩
   cases hc:(f0 || f1 || f2)
   ·obtain ⟨⟨rfl,rfl⟩,rfl⟩:(f0=false∧f1=false)∧f2=false:=by simpa using hc
    go_wp2_with fail
    go_round
    case rel=>exact ⟨i+1,by go_num,by omega,by rw[HT.out,HF.out];rfl⟩
    case measure=>simp[intOf];omega
   ·have hff:rL v=false:=by rw[HF.out,hc];rfl
    have iP:=aA (sQ.out hff);clear hff HF HT sQ
    rcases f0 with _|_ <;> rcases f1 with _|_ <;> rcases f2 with _|_ <;> first|(simp at hc;done)|(clear hc;go_wp2_with fail;go_ret;exact ⟨by rw[iP.out];rfl,HI.out.gL⟩)
  ·obtain rfl:i=m:=by omega
   have t2:¬ (i:Int)<(i:Int):=by omega
   have HE:Hid (x.vs.all rL=true):=aA (by have:=HA.out;rw[bB (by rw[HM.out];omega)] at this;exact this);by_cases h64:(i:Int)≤64
   ·go_wp2_with fail
    go_ret;exact ⟨by unfold tW;rw[HE.out,HM.out,bA h64];rfl,HI.out.gL⟩
   ·go_wp2_with fail
    go_ret;exact ⟨by unfold tW;rw[HE.out,HM.out,aN (show ¬ (i:Int)≤64 by omega)];rfl,HI.out.gL⟩
def T8Rel (s:eF)(x:eE)(w:World)(m:Nat)(g:Nat)(u:Value)(W:World):Prop :=
 ∃i,g=m-i∧u=.int .i64 (i:Int)∧i≤m∧(x.ts.take i).all (rM (x.vs.length:Int))=true∧wR s x w W
def T4Rel (s:eF)(x:eE)(w:World)(k:Nat)(g:Nat)(u:Value)(W:World):Prop :=
 ∃i,g=k-i∧u=.int .i64 (i:Int)∧i≤k∧(s.os.take i).all (fun y=>decide (y.id≠x.id))=true∧wR s x w W
theorem Tn (s:eF)(x:eE)(k:Nat)(w:World)(hs:iA s)(h:eN w s.oo s.os)(hx:s.os[k]?=some x) :
  Calls prog 105 #[.agg (eU s),.int .i64 (k:Int),.int .i64 8] w (fJ (tV s x k) w):=by
 have HI:Hid (wR s x w ((w.alloc (.cells (eU s) 28)).alloc (.cells (dP x).toArray 73))):=aA (wR.new hs h hx);obtain ⟨b,off,e,lX⟩:=h k x hx;have hat:=lX.below (show Below w.heap.size w (w.alloc (.cells (eU s) 28)) by go_grown);have HR:=aA hat.cells;have HX:=aA hat.wf;have lW:=aA (show (prog.info? 73).map (·.size)=some (dP x).length by rw[dX hat.wf];kernel_rfl);have oY:=aA (show (prog.info? 73).map (·.size)=some (dP x).toArray.size by rw[aL,dX hat.wf];kernel_rfl);have HL:=aA (show 19=(dP x).toArray.size by rw[aL,dX hat.wf]);have mX:=aA (nL x);have c18:(w.alloc (.cells (eU s) 28)).cell? ⟨w.heap.size,18,none⟩=some (.slice s.oo s.os.length s.oc):=(eZ.new w s).c18 hs;have wI:k<s.os.length:=(aY.1 hx).1;have gR:=hs.cap.1;rw[e] at c18;obtain ⟨n,hn⟩:∃n,s.os.length=n:=⟨_,rfl⟩;rw[hn] at c18 gR wI;have n0:(0:Int)≤(n:Int):=by omega
 have n1:(n:Int)≤9223372036854775807:=by omega
 have k0:(0:Int)≤(k:Int):=by omega
 have k1:(k:Int)<(n:Int):=by omega
 clear hn hs h hx hat lX wI gR e;go_enter func105,ntmps105;go_wp2_with (first|(refine wpList_load_mid rfl 73 (.tmp 22) rfl b (off+k*19) rfl (dP x) _ HR.out bW rfl lW.out ?_)|(refine eJ rfl 73 (.tmp 7) (.tmp 23) rfl (w.heap.size+1) _ _ (dP x).toArray rfl (aR _ _) rfl oY.out HL.out mX.out ?_;generalize ((w.alloc (.cells (eU s) 28)).alloc (.cells (dP x).toArray 73))=V at HI ⊢;clear c18 HR;have c17:=HI.out.x17 HX.out))
 have hvc:=HX.out.LJ.1;have htc:=HX.out.ID.1;obtain ⟨m,hm⟩:∃m,x.ts.length=m:=⟨_,rfl⟩;obtain ⟨q,hq⟩:∃q,x.vs.length=q:=⟨_,rfl⟩;have HM:=aA hm;have HQ:=aA hq;rw[hm] at htc;rw[hq] at c17 hvc;have m0:(0:Int)≤(m:Int):=by omega
 have m1:(m:Int)≤9223372036854775807:=by omega
 have q0:(0:Int)≤(q:Int):=by omega
 have q1:(q:Int)≤9223372036854775807:=by omega
 clear hm hq hvc htc;go_wp2_with fail;rw[HQ.out];go_wp2_with fail;clear c17;go_loopg[17] m (T8Rel s x w m)
 case atStart=>exact ⟨0,rfl,rfl,by omega,rfl,HI.out⟩
 case round =>
  clear HI;obtain ⟨i,hg,rfl,hi,ha,I⟩:=hrel;have HI:=aA I;have HA:=aA ha;subst hg;have c18:=I.x18 HX.out;rw[HM.out] at c18;clear ha I;have i0:(0:Int)≤(i:Int):=by omega
  by_cases him:i<m
  ·have t2:(i:Int)<(m:Int):=by omega
   have hil:i<x.ts.length:=by rw[HM.out];exact him
   obtain ⟨t,ht⟩:∃t,x.ts[i]?=some t:=⟨_,aF hil⟩;obtain ⟨b2,off2,e2,hrg,GK⟩:=HI.out.ts i t ht;have d0:wr.cell? ⟨b2,off2+i*4,none⟩=some (.int .i64 t.a):=hrg 0 _ rfl;have d1:wr.cell? ⟨b2,off2+i*4+1,none⟩=some (.int .i64 t.b):=hrg 1 _ rfl;have d2:wr.cell? ⟨b2,off2+i*4+2,none⟩=some (.int .i64 t.c):=hrg 2 _ rfl;have d3:wr.cell? ⟨b2,off2+i*4+3,none⟩=some (.int .u32 t.col):=hrg 3 _ rfl;have HF:Hid (rM (q:Int) t = !(decide (t.a<0) || decide (t.b<0) || decide (t.c<0) || decide ((q:Int)≤t.a) || decide ((q:Int)≤t.b) || decide ((q:Int)≤t.c))):=aA rfl;have HT:=aA (FW ht HA.out);have sQ:Hid (rM (q:Int) t=false→tV s x k=false):=aA (fun h=>by unfold tV;rw[HQ.out,YA ht h];rfl);rw[HQ.out] at HT;rw[e2] at c18;clear ht hrg GK e2;generalize t.a=ta at d0 HF;generalize t.b=tb at d1 HF;generalize t.c=tc at d2 HF;generalize t.col=tl at d3;have jP:Hid (wR s x w (wr.alloc (.cells #[.int .i64 ta,.int .i64 tb,.int .i64 tc,.int .u32 tl] 87))):=aA (HI.out.up (by go_grown));by_cases h1:ta<0
   ·have iP:=aA (sQ.out (by rw[HF.out];simp[h1]));clear HF HT sQ;go_wp2_with fail;go_ret;exact ⟨by rw[iP.out];rfl,jP.out.gL⟩
   ·by_cases h2:tb<0
    ·have iP:=aA (sQ.out (by rw[HF.out];simp[h2]));clear HF HT sQ;go_wp2_with fail;go_ret;exact ⟨by rw[iP.out];rfl,jP.out.gL⟩
    ·by_cases h3:tc<0
     ·have iP:=aA (sQ.out (by rw[HF.out];simp[h3]));clear HF HT sQ;go_wp2_with fail;go_ret;exact ⟨by rw[iP.out];rfl,jP.out.gL⟩
     ·by_cases h4:(q:Int)≤ta
      ·have iP:=aA (sQ.out (by rw[HF.out];simp[h4]));clear HF HT sQ;go_wp2_with fail;go_ret;exact ⟨by rw[iP.out];rfl,jP.out.gL⟩
      ·by_cases h5:(q:Int)≤tb
       ·have iP:=aA (sQ.out (by rw[HF.out];simp[h5]));clear HF HT sQ;go_wp2_with fail;go_ret;exact ⟨by rw[iP.out];rfl,jP.out.gL⟩
       ·by_cases h6:(q:Int)≤tc
        ·have iP:=aA (sQ.out (by rw[HF.out];simp[h6]));clear HF HT sQ;go_wp2_with fail;go_ret;exact ⟨by rw[iP.out];rfl,jP.out.gL⟩
        ·have HY:=aA (HT.out.trans (HF.out.trans (show _=true by simp[h1,h2,h3,h4,h5,h6])))
         clear HF HT sQ;go_wp2_with fail;go_roundg (m-(i+1))
         case measure=>omega
         case rel=>exact ⟨i+1,rfl,by go_num,by omega,by rw[HQ.out];exact HY.out,jP.out⟩
  ·obtain rfl:i=m:=by omega
   have t2:¬ (i:Int)<(i:Int):=by omega
   have HE:Hid (x.ts.all (rM (x.vs.length:Int))=true):=aA (by have:=HA.out;rw[bB (by rw[HM.out];omega)] at this;exact this);by_cases h64:(i:Int)≤64
   ·go_wp2_with fail
    go_ret;exact ⟨by unfold tV;rw[HE.out,HM.out,bA h64];rfl,HI.out.gL⟩
   ·go_wp2_with fail
    go_ret;exact ⟨by unfold tV;rw[HE.out,HM.out,aN (show ¬ (i:Int)≤64 by omega)];rfl,HI.out.gL⟩
theorem Ts (s:eF)(x:eE)(k:Nat)(w:World)(hs:iA s)(h:eN w s.oo s.os)(hx:s.os[k]?=some x) :
  Calls prog 105 #[.agg (eU s),.int .i64 (k:Int),.int .i64 4] w (fJ (rF s x k) w):=by
 have HI:Hid (wR s x w ((w.alloc (.cells (eU s) 28)).alloc (.cells (dP x).toArray 73))):=aA (wR.new hs h hx);have HS:=aA hs;obtain ⟨b,off,e,lX⟩:=h k x hx;have hat:=lX.below (show Below w.heap.size w (w.alloc (.cells (eU s) 28)) by go_grown);have HR:=aA hat.cells;have lW:=aA (show (prog.info? 73).map (·.size)=some (dP x).length by rw[dX hat.wf];kernel_rfl);have oY:=aA (show (prog.info? 73).map (·.size)=some (dP x).toArray.size by rw[aL,dX hat.wf];kernel_rfl);have HL:=aA (show 19=(dP x).toArray.size by rw[aL,dX hat.wf]);have mX:=aA (nL x);have c18:(w.alloc (.cells (eU s) 28)).cell? ⟨w.heap.size,18,none⟩=some (.slice s.oo s.os.length s.oc):=(eZ.new w s).c18 hs;have wI:k<s.os.length:=(aY.1 hx).1;have gR:=hs.cap.1;rw[e] at c18;obtain ⟨n,hn⟩:∃n,s.os.length=n:=⟨_,rfl⟩;have HN:=aA hn;rw[hn] at c18 gR wI;have n0:(0:Int)≤(n:Int):=by omega
 have n1:(n:Int)≤9223372036854775807:=by omega
 have k0:(0:Int)≤(k:Int):=by omega
 have k1:(k:Int)<(n:Int):=by omega
 have EO:=aA e;clear hn hs h hx hat lX wI gR e;go_enter func105,ntmps105;go_wp2_with (first|(refine wpList_load_mid rfl 73 (.tmp 22) rfl b (off+k*19) rfl (dP x) _ HR.out bW rfl lW.out ?_)|(refine eJ rfl 73 (.tmp 7) (.tmp 23) rfl (w.heap.size+1) _ _ (dP x).toArray rfl (aR _ _) rfl oY.out HL.out mX.out ?_;generalize ((w.alloc (.cells (eU s) 28)).alloc (.cells (dP x).toArray 73))=V at HI ⊢;clear c18 HR))
 go_loopg[8] k (T4Rel s x w k)
 case atStart=>exact ⟨0,rfl,rfl,by omega,rfl,HI.out⟩
 case round =>
  clear HI;obtain ⟨i,hg,rfl,hi,ha,I⟩:=hrel;have HI:=aA I;have HA:=aA ha;subst hg;have c18:=I.sc.c18 HS.out;have x0:=I.x0;rw[HN.out,EO.out] at c18;clear ha I;have i0:(0:Int)≤(i:Int):=by omega
  by_cases him:i<k
  ·have t2:(i:Int)<(k:Int):=by omega
   have t3:(i:Int)<(n:Int):=by omega
   have hil:i<s.os.length:=by rw[HN.out];omega
   obtain ⟨y,hy⟩:∃y,s.os[i]?=some y:=⟨_,aF hil⟩;obtain ⟨b2,off2,e2,hyt⟩:=HI.out.ob i y hy;have d0:=hyt.c0;rw[EO.out] at e2;obtain ⟨rfl,rfl⟩:b=b2∧off=off2:=by injection e2 with e2;injection e2 with e3 e4;exact ⟨e3,e4⟩
   have HT:=aA (FW hy HA.out);have sQ:Hid (y.id=x.id→rF s x k=false):=aA (fun h=>by
    unfold rF;have : (s.os.take k).all (fun y=>decide (y.id≠x.id))=false:=by
     refine YA (k:=i) (x:=y) ?_ (by simp[h]);rw[List.getElem?_take,aZ him];exact hy
    rw[this];rfl)
   clear hy hyt e2;generalize y.id=yi at d0 HT sQ;obtain ⟨xi,hxi⟩:∃z,x.id=z:=⟨_,rfl⟩;have HXI:=aA hxi;rw[hxi] at x0 HT sQ;clear hxi;by_cases h1:yi=xi
   ·have iP:=aA (sQ.out h1)
    clear HT sQ;go_wp2_with fail
    go_quiet (fail)
    go_wp2_with fail;go_ret;exact ⟨by rw[iP.out];rfl,nV _ HI.out.gL⟩
   ·have HY:=aA (HT.out.trans (show decide (yi≠xi)=true by simp[h1]))
    clear HT sQ;go_wp2_with fail
    go_quiet (fail)
    go_wp2_with fail;go_roundg (k-(i+1))
    case measure=>omega
    case rel=>exact ⟨i+1,rfl,by go_num,by omega,by rw[HXI.out];exact HY.out,HI.out.up (nV _ (aJ _ _))⟩
  ·obtain rfl:i=k:=by omega
   have t2:¬ (i:Int)<(i:Int):=by omega
   by_cases h1:1≤x.id
   ·by_cases h2:x.id≤65535
    ·go_wp2_with fail
     go_ret;exact ⟨by unfold rF;rw[HA.out,bA h1,bA h2];rfl,HI.out.gL⟩
    ·go_wp2_with fail
     go_ret;exact ⟨by unfold rF;rw[HA.out,bA h1,aN (show ¬ x.id≤65535 by omega)];rfl,HI.out.gL⟩
   ·go_wp2_with fail
    go_ret;exact ⟨by unfold rF;rw[HA.out,aN (show ¬ 1≤x.id by omega)];rfl,HI.out.gL⟩
section
variable {n:Nat} {P:Program} {ops:Array Oper} {Q:Exit→Act→World→Prop} {md:Region.Mode} {S:World→Prop} {Z:List Nat}
def Gives (P:Program)(ops:Array Oper)(S:World→Prop)(o:Oper)(v:Value)(a:Act):Prop :=
 (Region.wanted o (yielded ops a.tmps)=true∧∀w,S w→(execOp a.eval o).run P w=.ok (.value v) w ∨
  ∃f args,(execOp a.eval o).run P w=.ok (.enter f args) w∧Calls P f args w fun e w'=>e=.returned v∧Below w.heap.size w w') ∨
 (Region.wanted o (yielded ops a.tmps)=false∧v=undef)
theorem Gives.of_same {o:Oper}{v:Value}{a a':Act}(hy:Gives P ops S o v a)(he:execOp a'.eval o=execOp a.eval o)
  (hw:Region.wanted o (yielded ops a'.tmps)=Region.wanted o (yielded ops a.tmps)):Gives P ops S o v a':=by
 unfold Gives at *;rw[he,hw];exact hy
theorem putY {F:Fence}(hF:∀f,F.fn f)(hd:Calm ops=true){j:Nat}{oi oj:Oper}{v:Value}(hj:ops[j]?=some oj)(hap:oi.apart ops oj=true)
  (hsj:∀cs b,oj.op≠.select cs b)
  (hQ:∀c a w,Q (.panic c) (a.put oi.dst v) w→Q (.panic c) a w) {Y:Act→Prop} (keep:∀a,Y a→∀u,Y (a.put oj.dst u)) (keepD:∀a d,Y a→Y { a with defers:=d }) {K:Act→World→Prop} {a:Act} {w:World}
  (hy:Y a) (h:wpOpIn F n P ops Q j K (a.put oi.dst v) w) :
  wpOpIn F n P ops Q j (fun a' w'=>Y a'∧K (a'.put oi.dst v) w') a w:=by
 obtain ⟨h1,h2,h3⟩:=Oper.apart_spec hap;have hcj:=BW hd hj;unfold wpOpIn at *;simp only[hj] at *;rw[wanted_put oj a oi.dst v h1] at h
 split
 ·rename_i hw
  simp only[hw,if_true] at h;unfold Oper.wpIn at *;rw[Oper.semAt_plain F _ _ hcj] at h ⊢;rw[execOp_put oj hsj a oi.dst v h1] at h;refine ⟨fun f _=>hF f,?_⟩;obtain ⟨_,h⟩:=h;generalize (execOp a.eval oj).run P w=r at *
  cases r with
  | ok x w' =>
   cases x <;> simp only[Oper.uponIn] at h ⊢
   case value u=>exact ⟨keep a hy u,by rw[←Act.put_comm a v u h2];exact h⟩
   case skip=>exact ⟨keep a hy _,by rw[←Act.put_comm a v undef h2];exact h⟩
   case defer d =>
    refine ⟨keep _ (keepD _ _ hy) _,?_⟩;rw[←Act.put_comm _ v undef h2,←Act.put_defers];exact h
   case enter f args =>
    refine ⟨h.1,CallsIn.mono h.2 fun e w'' he=>?_⟩
    cases e with
    | returned u=>exact ⟨keep a hy u,by rw[←Act.put_comm a v u h2];exact he⟩
    | panicked c=>exact hQ _ _ _ he
    | outgrown=>exact he
   case row row args=>exact ⟨h.1,RowsIn.mono h.2 fun u w'' he=>⟨keep a hy u,by rw[←Act.put_comm a v u h2];exact he⟩⟩
   case round l f tmps assign body =>
    refine ⟨h.1,RoundIn.mono h.2 fun e w'' he=>?_⟩
    cases e with
    | returned u=>exact ⟨keep a hy u,by rw[←Act.put_comm a v u h2];exact he⟩
    | panicked c=>exact hQ _ _ _ he
    | outgrown=>exact he
  | halt x w' =>
   cases x <;> simp only[Oper.uponIn] at h ⊢
   case panic u=>exact hQ _ _ _ h
 ·rename_i hw
  simp only[hw] at h;exact ⟨fun f _=>hF f,keep a hy _,by rw[←Act.put_comm a v undef h2];exact h.2⟩
theorem Az (hd:Calm ops=true){i:Nat}{o:Oper}{v:Value}{a:Act}(hi:ops[i]?=some o)(hy:Gives P ops S o v a)
  {K:Act→World→Prop} {w:World} (hS:S w) (h:∀w',Below w.heap.size w w'→K (a.put o.dst v) w'):wpOpIn Fence.wide n P ops Q i K a w:=by
 unfold Go.wpOpIn;simp only[hi]
 rcases hy with ⟨hw,hv⟩|⟨hw,rfl⟩
 ·simp only[hw,if_true,Oper.wpIn,Oper.semAt_plain _ _ _ (BW hd hi)]
  rcases hv w hS with hv|⟨f,args,hr,hc⟩
  ·rw[hv]
   exact ⟨fun f _=>trivial,h w (aJ _ _)⟩
  ·rw[hr]
   refine ⟨fun f _=>trivial,fun h=>(by cases h),bG.2 (hc.mono ?_)⟩;rintro e w' ⟨rfl,hb⟩;exact h w' hb
 ·simp only[hw,bD,if_false]
  exact ⟨fun f _=>trivial,h w (aJ _ _)⟩
def gX (n:Nat)(P:Program)(md:Region.Mode)(ops:Array Oper)(Q:Exit→Act→World→Prop)(S:World→Prop)(Z:List Nat):Nat→Array Bool→Act→World→Prop
 | 0,listed,a,w=>Region.ready md ops listed=[]∧Q .normal a w
 | fuel+1,listed,a,w =>
  (Region.ready md ops listed=[]→Q .normal a w) ∧
  ∀i∈Region.ready md ops listed,wpOpIn Fence.wide n P ops Q i (fun a' w'=>(Z.contains i=false→S w')∧∀w3,Below w'.heap.size w' w3→gX n P md ops Q S Z fuel (listed.setIfInBounds i true) a' w3) a w
theorem gX.any:∀ (fuel:Nat)(listed:Array Bool)(a:Act)(w:World),gX n P md ops Q S Z fuel listed a w→wpAnyIn Fence.wide n P md ops Q fuel listed a w
 | 0,_,_,_,h=>h
 | fuel+1,_,_,_,h=>⟨h.1,fun i hi=>wpOpIn_mono (fun a' w' h'=>gX.any fuel _ a' w' (h'.2 w' (aJ _ _))) (h.2 i hi)⟩
def Chain (md:Region.Mode)(ops:Array Oper)(L:Array Bool)(i:Nat)(D:List Nat):Bool :=
 D.all fun d=>!L.getD d true && (match ops[d]? with
  | some o=>o.after.any fun e=>Region.binds md e && (e.on == i || D.contains e.on)
  | none=>false)
def GH (md:Region.Mode)(ops:Array Oper)(L:Array Bool)(i:Nat)(D:List Nat):Prop :=
 ∀d∈D,L.getD d true=false∧∃o,ops[d]?=some o∧∃e∈o.after,Region.binds md e=true∧(e.on=i∨e.on∈D)
theorem wK {L:Array Bool}{i:Nat}{D:List Nat}(h:Chain md ops L i D=true):GH md ops L i D:=by
 intro d hd;unfold Chain at h;rw[bU] at h;have:=h d hd;rw[Bool.and_eq_true] at this;obtain ⟨h1,h2⟩:=this;refine ⟨by simpa using h1,?_⟩
 cases ho:ops[d]? with
 | none=>rw[ho] at h2;cases h2
 | some o =>
  rw[ho] at h2;refine ⟨o,rfl,?_⟩;dsimp only at h2;rw[Array.any_eq_true] at h2;obtain ⟨x,hx,h2⟩:=h2;simp only[Bool.and_eq_true,Bool.or_eq_true,beq_iff_eq,List.contains_iff_mem] at h2;exact ⟨o.after[x],Array.getElem_mem hx,h2.1,h2.2⟩
theorem wW {L:Array Bool}{k:Nat}(h0:L.getD k true=false)(h1:L.getD k false=true):False:=by
 rcases Nat.lt_or_ge k L.size with h'|h'
 ·simp[h'] at h0 h1;rw[h0] at h1;cases h1
 ·simp[Array.getElem?_eq_none h'] at h1
theorem GH.wait {L:Array Bool}{i j:Nat}{D:List Nat}(h:GH md ops L i D)(hi:L.getD i true=false)(hj:j∈Region.ready md ops L):j∉D:=by
 intro hD;obtain ⟨_,o,ho,e,he,hb,hc⟩:=h j hD;obtain ⟨_,o',Sg,hall⟩:=mem_ready.1 hj;rw[ho] at Sg
 cases Sg;have h1:=hall e he hb
 rcases hc with hc|hc
 ·rw[hc] at h1;exact wW hi h1
 ·exact wW (h _ hc).1 h1
theorem ET (hd:Calm ops=true){i:Nat}{oi:Oper}{v:Value}(hi:ops[i]?=some oi)(RY:∀ (j:Nat) (o:Oper) cs b,ops[j]?=some o→o.op≠.select cs b)
  (hQ:∀c a w,Q (.panic c) (a.put oi.dst v) w→Q (.panic c) a w) (D:List Nat) (hZ:∀z∈Z,z∈D) (hm:∀w w',S w→Below w.heap.size w w'→S w') (fuel:Nat) :
  ∀ (listed:Array Bool) (a:Act) (w:World),
   (∀j oj,ops[j]?=some oj→j≠i→listed.getD j true=false→(∀e∈oj.after,Region.binds md e=true→e.on≠i)→oi.apart ops oj=true) →
   i∈Region.ready md ops listed→GH md ops listed i D→Gives P ops S oi v a→S w →
   (∀w3,Below w.heap.size w w3→gX n P md ops Q S Z fuel (listed.setIfInBounds i true) (a.put oi.dst v) w3)→gX n P md ops Q S Z (fuel+1) listed a w:=by
 induction fuel with
 | zero =>
  intro listed a w _ hr hch hy hS H;refine ⟨fun h=>(by rw[h] at hr;cases hr),fun j hj=>?_⟩;by_cases zG:j=i
  ·subst zG;exact Az hd hi hy hS fun w' hb=>⟨fun _=>hm _ _ hS hb,fun w3 hb3=>H w3 (hb.trans (hb3.mono hb.size))⟩
  ·have:=ready_mono hj zG
   rw[(H w (aJ _ _)).1] at this
   cases this
 | succ fuel ih =>
  intro listed a w zH hr hch hy hS H;refine ⟨fun h=>(by rw[h] at hr;cases hr),fun j hj=>?_⟩;by_cases zG:j=i
  ·subst zG;exact Az hd hi hy hS fun w' hb=>⟨fun _=>hm _ _ hS hb,fun w3 hb3=>H w3 (hb.trans (hb3.mono hb.size))⟩
  ·have h1:=(H w (aJ _ _)).2 j (ready_mono hj zG)
   obtain ⟨SK,oj,Mq,hall⟩:=mem_ready.1 hj;have Ni:=(mem_ready.1 hr).1;have Ms:∀e∈oj.after,Region.binds md e=true→e.on≠i:=fun e he hb heq=>by
    have h1:=hall e he hb;rw[heq] at h1;exact wW Ni h1
   have hap:=zH j oj Mq zG SK Ms;obtain ⟨_,_,jv⟩:=Oper.apart_spec hap;have h2:=putY (Y:=Gives P ops S oi v) (fun _=>trivial) hd Mq hap (fun cs b=>RY j oj cs b Mq) hQ
    (fun a hy u=>hy.of_same (execOp_put oi (fun cs b=>RY i oi cs b hi) a oj.dst u jv) (wanted_put oi a oj.dst u jv)) (fun a d hy=>hy.of_same rfl rfl) hy h1
   have hjD:=hch.wait Ni hj;have hjZ:Z.contains j=false:=by
    rw[Bool.eq_false_iff];intro hc;exact hjD (hZ j (List.contains_iff_mem.1 hc))
   refine wpOpIn_mono (fun a' w' h3=>⟨h3.2.1,fun w4 hb4=>ih (listed.setIfInBounds j true) a' w4 (fun k ok hk hki Rx hno=>zH k ok hk hki ?_ hno) (ready_mono hr (Ne.symm zG)) ?_ h3.1 (hm _ _ (h3.2.1 hjZ) hb4) ?_⟩) h2
   ·by_cases hjk:j=k
    ·subst hjk;exact SK
    ·rw[getD_set_ne true hjk] at Rx;exact Rx
   ·intro d hdD
    obtain ⟨e1,e2⟩:=hch d hdD;have hjd:j≠d:=by rintro rfl;exact hjD hdD
    exact ⟨by rw[getD_set_ne true hjd];exact e1,e2⟩
   ·intro w3 hb3
    rw[Array.setIfInBounds_comm _ _ zG];exact h3.2.2 w3 (hb4.trans (hb3.mono hb4.size))
structure Sound (P:Program)(ops:Array Oper)(Q:Exit→Act→World→Prop)(S:World→Prop):Prop where
 calm:Calm ops=true
 Zn:Region.noSelect ops=true
 mono:∀w w',S w→Below w.heap.size w w'→S w'
 pan:∀d v c a w,Q (.panic c) (Act.put a d v) w→Q (.panic c) a w
def mU (md:Region.Mode)(ops:Array Oper)(Z:List Nat)(L:Array Bool)(i:Nat)(D:List Nat):Bool :=
 Region.free md ops L i && (Region.ready md ops L).contains i && Z.all (D.contains ·) && Chain md ops L i D
theorem rI (D:List Nat)(i:Nat)(v:Value)(s:Sound P ops Q S){oi:Oper}{fuel:Nat}{listed:Array Bool}{a:Act}{w:World}(hi:ops[i]?=some oi)
  (hk:mU md ops Z listed i D=true) (hS:S w) (hy:Gives P ops S oi v a)
  (h:∀w3,S w3→gX n P md ops Q S Z fuel (listed.setIfInBounds i true) (a.put oi.dst v) w3):gX n P md ops Q S Z (fuel+1) listed a w:=by
 unfold mU at hk;simp only[Bool.and_eq_true] at hk;obtain ⟨⟨⟨hf,hr⟩,hz⟩,hc⟩:=hk;refine ET s.calm hi (Region.noSelect_spec s.Zn) (fun c a w=>s.pan _ _ _ _ _) D (fun z hz'=>?_) s.mono fuel listed a w (Region.free_spec hi hf) (by simpa using hr) (wK hc) hy hS fun w3 hb=>h w3 (s.mono _ _ hS hb)
 have:=bU.1 hz z hz';exact List.contains_iff_mem.1 this
theorem dF (D:List Nat)(i:Nat)(v:Value)(s:Sound P ops Q S){oi:Oper}{fuel:Nat}{listed:Array Bool}{a:Act}{w:World}(hi:ops[i]?=some oi)
  (hk:mU md ops Z listed i D=true) (hS:S w) (hw:Region.wanted oi (yielded ops a.tmps)=true) (hv:∀w,S w→(execOp a.eval oi).run P w=.ok (.value v) w)
  (h:∀w3,S w3→gX n P md ops Q S Z fuel (listed.setIfInBounds i true) (a.put oi.dst v) w3):gX n P md ops Q S Z (fuel+1) listed a w :=
 rI D i v s hi hk hS (Or.inl ⟨hw,fun w hS=>Or.inl (hv w hS)⟩) h
theorem gD (D:List Nat)(i:Nat)(s:Sound P ops Q S){oi:Oper}{fuel:Nat}{listed:Array Bool}{a:Act}{w:World}(hi:ops[i]?=some oi)
  (hk:mU md ops Z listed i D=true) (hS:S w) (hw:Region.wanted oi (yielded ops a.tmps)=false)
  (h:∀w3,S w3→gX n P md ops Q S Z fuel (listed.setIfInBounds i true) (a.put oi.dst undef) w3):gX n P md ops Q S Z (fuel+1) listed a w :=
 rI D i undef s hi hk hS (Or.inr ⟨hw,rfl⟩) h
theorem fN (i:Nat){o:Oper}{fuel:Nat}{listed:Array Bool}{a:Act}{w:World}(hr:Region.ready md ops listed=[i])(ho:ops[i]?=some o)
  (h:∀K':Act→World→Prop,Shut (∀a w,(Z.contains i=false→S w)→(∀w3,Below w.heap.size w w3→gX n P md ops Q S Z fuel (listed.setIfInBounds i true) a w3)→K' a w)→if Region.wanted o (yielded ops a.tmps)=true then Oper.wpIn Fence.wide n P o a w K' Q else K' (a.put o.dst undef) w) :
  gX n P md ops Q S Z (fuel+1) listed a w:=by
 refine ⟨fun h0=>(by rw[hr] at h0;cases h0),fun j hj=>?_⟩;rw[hr,List.mem_singleton] at hj;subst hj;unfold wpOpIn;simp only[ho];have h':=h (fun a' w'=>(Z.contains j=false→S w')∧∀w3,Below w'.heap.size w' w3→gX n P md ops Q S Z fuel (listed.setIfInBounds j true) a' w3) (fun a w hS hW=>⟨hS,hW⟩)
 split
 ·rename_i hw
  rw[aZ hw] at h';exact h'
 ·rename_i hw
  rw[bF hw] at h';exact ⟨fun f _=>trivial,h'⟩
theorem eK {listed:Array Bool}{a:Act}{w:World}(hr:Region.ready md ops listed=[])(h:Q .normal a w):∀fuel,gX n P md ops Q S Z fuel listed a w
 | 0=>⟨hr,h⟩
 | _+1=>⟨fun _=>h,by rw[hr];simp⟩
theorem eA (S:World→Prop)(Z:List Nat){id:Nat}{a:Act}{w:World}(hmx:P.follows .mixedOrders=true)(jS:(Calm ops && Region.noSelect ops)=true)(hm:∀w w',S w→Below w.heap.size w w'→S w')
  (pan:∀d v c a w,Q (.panic c) (Act.put a d v) w→Q (.panic c) a w) (hS:S w.drew)
  (h:Sound P ops Q S→∀w1,S w1→gX n P .any ops Q S Z ops.size (Array.replicate ops.size false) a w1):(Code.region id ops true).wpIn Fence.wide n P Q a w :=
 wpIn_region_any hmx (gX.any _ _ _ _ (h ⟨(Bool.and_eq_true _ _▸jS).1,(Bool.and_eq_true _ _▸jS).2,hm,pan⟩ _ hS))
theorem dU {V:World}(w w':World)(h:Below V.heap.size V w)(k:Below w.heap.size w w'):Below V.heap.size V w':=h.trans (k.mono h.size)
end
section
variable {F:Fence} {n:Nat} {P:Program} {ops:Array Oper} {Q:Exit→Act→World→Prop} {md:Region.Mode} {S:World→Prop} {Z:List Nat}
def qA (F:Fence)(n:Nat)(P:Program)(md:Region.Mode)(ops:Array Oper)(Q:Exit→Act→World→Prop)(S:World→Prop)(Z:List Nat):Nat→Array Bool→Act→World→Prop
 | 0,listed,a,w=>Region.ready md ops listed=[]∧Q .normal a w
 | fuel+1,listed,a,w =>
  (Region.ready md ops listed=[]→Q .normal a w) ∧
  ∀i∈Region.ready md ops listed,wpOpIn F n P ops Q i (fun a' w'=>(Z.contains i=false→S w')∧qA F n P md ops Q S Z fuel (listed.setIfInBounds i true) a' w') a w
theorem qA.any:∀ (fuel:Nat)(listed:Array Bool)(a:Act)(w:World),qA F n P md ops Q S Z fuel listed a w→wpAnyIn F n P md ops Q fuel listed a w
 | 0,_,_,_,h=>h
 | fuel+1,_,_,_,h=>⟨h.1,fun i hi=>wpOpIn_mono (fun a' w' h'=>qA.any fuel _ a' w' h'.2) (h.2 i hi)⟩
theorem SU (hF:∀f,F.fn f)(hd:Calm ops=true){i:Nat}{oi:Oper}{v:Value}(hi:ops[i]?=some oi)(RY:∀ (j:Nat) (o:Oper) cs b,ops[j]?=some o→o.op≠.select cs b)
  (hQ:∀c a w,Q (.panic c) (a.put oi.dst v) w→Q (.panic c) a w) (D:List Nat) (hZ:∀z∈Z,z∈D) (fuel:Nat) :
  ∀ (listed:Array Bool) (a:Act) (w:World),
   (∀j oj,ops[j]?=some oj→j≠i→listed.getD j true=false→(∀e∈oj.after,Region.binds md e=true→e.on≠i)→oi.apart ops oj=true) →
   i∈Region.ready md ops listed→GH md ops listed i D→YieldsIf P ops S oi v a→S w →
   qA F n P md ops Q S Z fuel (listed.setIfInBounds i true) (a.put oi.dst v) w→qA F n P md ops Q S Z (fuel+1) listed a w:=by
 induction fuel with
 | zero =>
  intro listed a w _ hr hch hy hS H;refine ⟨fun h=>(by rw[h] at hr;cases hr),fun j hj=>?_⟩;by_cases zG:j=i
  ·subst zG;exact BK hF hd hi hy hS ⟨fun _=>hS,H⟩
  ·have:=ready_mono hj zG
   rw[H.1] at this
   cases this
 | succ fuel ih =>
  intro listed a w zH hr hch hy hS H;refine ⟨fun h=>(by rw[h] at hr;cases hr),fun j hj=>?_⟩;by_cases zG:j=i
  ·subst zG;exact BK hF hd hi hy hS ⟨fun _=>hS,H⟩
  ·have h1:=H.2 j (ready_mono hj zG)
   obtain ⟨SK,oj,Mq,hall⟩:=mem_ready.1 hj;have Ni:=(mem_ready.1 hr).1;have Ms:∀e∈oj.after,Region.binds md e=true→e.on≠i:=fun e he hb heq=>by
    have h1:=hall e he hb;rw[heq] at h1;exact wW Ni h1
   have h2:=SV hF hd Mq (zH j oj Mq zG SK Ms) (fun cs b=>RY i oi cs b hi) (fun cs b=>RY j oj cs b Mq) hQ hy h1;have hjD:=hch.wait Ni hj;have hjZ:Z.contains j=false:=by
    rw[Bool.eq_false_iff];intro hc;exact hjD (hZ j (List.contains_iff_mem.1 hc))
   refine wpOpIn_mono (fun a' w' h3=>⟨h3.2.1,ih (listed.setIfInBounds j true) a' w' (fun k ok hk hki Rx hno=>zH k ok hk hki ?_ hno) (ready_mono hr (Ne.symm zG)) ?_ h3.1 (h3.2.1 hjZ) ?_⟩) h2
   ·by_cases hjk:j=k
    ·subst hjk;exact SK
    ·rw[getD_set_ne true hjk] at Rx;exact Rx
   ·intro d hdD
    obtain ⟨e1,e2⟩:=hch d hdD;have hjd:j≠d:=by rintro rfl;exact hjD hdD
    exact ⟨by rw[getD_set_ne true hjd];exact e1,e2⟩
   ·rw[Array.setIfInBounds_comm _ _ zG]
    exact h3.2.2
theorem eG (hF:∀f,F.fn f)(D:List Nat)(i:Nat)(v:Value)(jS:(Calm ops && Region.noSelect ops)=true){oi:Oper}{fuel:Nat}{listed:Array Bool}{a:Act}{w:World}(hi:ops[i]?=some oi)
  (hk:mU md ops Z listed i D=true) (hQ:∀c a w,Q (.panic c) (a.put oi.dst v) w→Q (.panic c) a w) (hS:S w) (hw:Region.wanted oi (yielded ops a.tmps)=true) (hv:∀w,S w→(execOp a.eval oi).run P w=.ok (.value v) w)
  (h:qA F n P md ops Q S Z fuel (listed.setIfInBounds i true) (a.put oi.dst v) w):qA F n P md ops Q S Z (fuel+1) listed a w:=by
 unfold mU at hk;simp only[Bool.and_eq_true] at hk jS;obtain ⟨⟨⟨hf,hr⟩,hz⟩,hc⟩:=hk;refine SU hF jS.1 hi (Region.noSelect_spec jS.2) hQ D (fun z hz'=>?_) fuel listed a w (Region.free_spec hi hf) (by simpa using hr) (wK hc) (Or.inl ⟨hw,hv⟩) hS h;have:=bU.1 hz z hz';exact List.contains_iff_mem.1 this
theorem gF (hF:∀f,F.fn f)(i:Nat){o:Oper}{fuel:Nat}{listed:Array Bool}{a:Act}{w:World}(hr:Region.ready md ops listed=[i])(ho:ops[i]?=some o)
  (h:∀K':Act→World→Prop,Shut (∀a w,(Z.contains i=false→S w)→qA F n P md ops Q S Z fuel (listed.setIfInBounds i true) a w→K' a w)→if Region.wanted o (yielded ops a.tmps)=true then Oper.wpIn F n P o a w K' Q else K' (a.put o.dst undef) w) :
  qA F n P md ops Q S Z (fuel+1) listed a w:=by
 refine ⟨fun h0=>(by rw[hr] at h0;cases h0),fun j hj=>?_⟩;rw[hr,List.mem_singleton] at hj;subst hj;unfold wpOpIn;simp only[ho];have h':=h (fun a' w'=>(Z.contains j=false→S w')∧qA F n P md ops Q S Z fuel (listed.setIfInBounds j true) a' w') (fun a w hS hW=>⟨hS,hW⟩)
 split
 ·rename_i hw
  rw[aZ hw] at h';exact h'
 ·rename_i hw
  rw[bF hw] at h';exact ⟨fun f _=>hF f,h'⟩
theorem jW {listed:Array Bool}{a:Act}{w:World}(hr:Region.ready md ops listed=[])(h:Q .normal a w):∀fuel,qA F n P md ops Q S Z fuel listed a w
 | 0=>⟨hr,h⟩
 | _+1=>⟨fun _=>h,by rw[hr];simp⟩
theorem iN (S:World→Prop)(Z:List Nat){id:Nat}{a:Act}{w:World}(hmx:P.follows .mixedOrders=true)
  (h:qA F n P .any ops Q S Z ops.size (Array.replicate ops.size false) a w.drew):(Code.region id ops true).wpIn F n P Q a w :=
 wpIn_region_any hmx (qA.any _ _ _ _ h)
end
end Fx
namespace Fx
open Go Go.RowKit Go.Shelf Wm
theorem dY {P:Program}{o:Oper}{a:Act}{w:World}(ty:TypeId)(x:Operand)(ho:o.op=.load ty x)
  (g:Nat) (hx:a.eval x=.pointer (some ⟨g,0,none⟩)) (t:TypeId) (cs:Array Value) (fr:Nat×Nat) (d:TypeDesc) (hg:w.heap[g]?=some (.cells cs t fr))
  (hu:P.underlying ty=some d) (hd:(match d with | .struct _ | .array _ _=>true|_=>false)=true) (hi:(P.info? ty).map (·.size)=some cs.size) :
  (execOp a.eval o).run P w=.ok (.value (.agg cs)) w:=by
 unfold execOp;simp only[ho,hx,Instr.loadAt,Instr.sureAddr,Sem.run_bind,Sem.run_pure,Result.andThen_ok,run_loadVar_row w g t ty cs fr d hg hu hd hi]
def vH (f:Nat)(args:Array Value)(v:Value):Prop:=∀w,Calls prog f args w fun e w'=>e=.returned v∧Below w.heap.size w w'
theorem eD {F:Fence}{n:Nat}{P:Program}{o:Oper}{a:Act}{w:World}{K:Act→World→Prop}{Q:Exit→Act→World→Prop}(hF:∀f,F.fn f)(ty:TypeId)(x y:Operand)(ho:o.op=.store ty x y)
  (g:Nat) (t:TypeId) (c c':Array Value) (hx:a.eval x=.pointer (some ⟨g,0,none⟩)) (hy:a.eval y=.agg c') (hg:w.heap[g]?=some (.cells c t (0,0)))
  (hi:(P.info? ty).map (·.size)=some c'.size) (hs:c.size=c'.size) (h1:c'.all (·.oneCell')=true) (h:K (a.put o.dst undef) (w.setRow g c')):Oper.wpIn F n P o a w K Q:=by
 unfold Oper.wpIn;rw[Oper.semAt_plain F _ _ (by intro c e;rw[ho] at e;cases e)];unfold execOp;simp only[ho,hx,hy,Instr.storeAt,Instr.sureAddr,Sem.run_bind,Sem.run_pure,Result.andThen_ok,run_storeVar_row w g t ty c c' hg hi hs h1,Oper.uponIn];exact ⟨fun f _=>hF f,h⟩
end Fx
end Go.Proofs.YtbbhmhihpdmoiaaGreat
