import Derived.Test.YtbbhmhihpdmoiaaGreatJf01
set_option linter.unusedVariables false
set_option linter.unusedSimpArgs false
set_option maxRecDepth 100000
set_option maxHeartbeats 32000000
namespace Go.Proofs.YtbbhmhihpdmoiaaGreat
open Go.Proofs.Tryz
namespace Fx
open Go Go.RowKit Go.ChangeShapes Go.WideShapes
structure gB where
 a:Int
 b:Int
 c:Int
 col:Int
 deriving DecidableEq
instance:Inhabited gB:=⟨⟨0,0,0,0⟩⟩
structure eE where
 id:Int
 m:List Int
 vo:Option Addr
 vs:List (List Int)
 vc:Nat
 tq:Option Addr
 ts:List gB
 tc:Nat
instance:Inhabited eE:=⟨⟨0,[],none,[],0,none,[],0⟩⟩
structure eF where
 w:Int
 h:Int
 jN:List Int
 oo:Option Addr
 os:List eE
 oc:Nat
def fC (t:gB):List Value:=[.int .i64 t.a,.int .i64 t.b,.int .i64 t.c,.int .u32 t.col]
def dP (x:eE):List Value:=.int .i64 x.id::(x.m.map encI++[.slice x.vo x.vs.length x.vc,.slice x.tq x.ts.length x.tc])
def fP (s:eF):List Value:=.int .i64 s.w :: .int .i64 s.h::(s.jN.map encI++[.slice s.oo s.os.length s.oc])
def eU (s:eF):Array Value:=(fP s).toArray
def Num (z:Int):Prop:=-9223372036854775808≤z∧z≤9223372036854775807
structure jI (v:List Int):Prop where
 len:v.length=3
 num:∀j,Num (v.getD j 0)
structure mN (t:gB):Prop where
 a:Num t.a
 b:Num t.b
 c:Num t.c
 col:0≤t.col∧t.col<4294967296
def nW {α:Type}(P:Nat→Nat→α→Prop)(n:Nat)(o:Option Addr)(l:List α):Prop:=∀k z,l[k]?=some z→∃b off,o=some ⟨b,off,none⟩∧P b (off+k*n) z
def pJ (o:Option Addr)(n c:Nat):Prop:=(n≤c∧c≤9223372036854775807)∧(o=none→c=0)
def fH (W:World)(o:Option Addr)(l:List (List Int)):Prop:=nW (fun b j v=>W.rangeAt b j (v.map encI)∧jI v) 3 o l
def gM (W:World)(o:Option Addr)(l:List gB):Prop:=nW (fun b j t=>W.rangeAt b j (fC t)∧mN t) 4 o l
structure jY (x:eE):Prop where
 id:Num x.id
 len:x.m.length=16
 num:∀j,Num (x.m.getD j 0)
 LJ:pJ x.vo x.vs.length x.vc
 ID:pJ x.tq x.ts.length x.tc
structure nR (W:World)(b j:Nat)(x:eE):Prop where
 cells:W.rangeAt b j (dP x)
 sT:fH W x.vo x.vs
 zM:gM W x.tq x.ts
 wf:jY x
def eN (W:World)(o:Option Addr)(l:List eE):Prop:=nW (nR W) 19 o l
structure iA (s:eF):Prop where
 w:Num s.w
 h:Num s.h
 len:s.jN.length=16
 num:∀j,Num (s.jN.getD j 0)
 cap:pJ s.oo s.os.length s.oc
theorem iC {w W:World}{b j:Nat}{l:List Value}(hb:Below w.heap.size w W)(h:w.rangeAt b j l):W.rangeAt b j l:=fun i v hi=>dE hb (h i v hi)
theorem fH.below {w W:World}{o:Option Addr}{l:List (List Int)}(hb:Below w.heap.size w W)(h:fH w o l):fH W o l:=fun k z hk=>by
 obtain ⟨b,off,e,h1,h2⟩:=h k z hk;exact ⟨b,off,e,iC hb h1,h2⟩
theorem gM.below {w W:World}{o:Option Addr}{l:List gB}(hb:Below w.heap.size w W)(h:gM w o l):gM W o l:=fun k z hk=>by
 obtain ⟨b,off,e,h1,h2⟩:=h k z hk;exact ⟨b,off,e,iC hb h1,h2⟩
theorem nR.below {w W:World}{b j:Nat}{x:eE}(hb:Below w.heap.size w W)(h:nR w b j x):nR W b j x :=
 ⟨iC hb h.cells,h.sT.below hb,h.zM.below hb,h.wf⟩
theorem eN.below {w W:World}{o:Option Addr}{l:List eE}(hb:Below w.heap.size w W)(h:eN w o l):eN W o l:=fun k z hk=>by
 obtain ⟨b,off,e,h1⟩:=h k z hk;exact ⟨b,off,e,h1.below hb⟩
theorem lR {s:eF}(h:iA s):(fP s).length=19:=by simp[fP,h.len]
theorem dX {x:eE}(h:jY x):(dP x).length=19:=by simp[dP,h.len]
theorem Uo {s:eF}{j:Nat}{v:Value}(hj:(s.jN.map encI)[j]?=some v):(fP s)[2+j]?=some v:=by
 rw[show 2+j=j+1+1 by omega];show (s.jN.map encI++_)[j]?=_;rw[cX (aY.1 hj).1];exact hj
theorem xq {s:eF}(h:iA s):(fP s)[18]?=some (.slice s.oo s.os.length s.oc):=by
 show (s.jN.map encI++_)[16]?=_;rw[List.getElem?_append_right (by simp[h.len])];simp[h.len]
theorem uW (x:eE):(dP x)[0]?=some (.int .i64 x.id):=rfl
theorem DX {x:eE}{j:Nat}{v:Value}(hj:(x.m.map encI)[j]?=some v):(dP x)[1+j]?=some v:=by
 rw[show 1+j=j+1 by omega];show (x.m.map encI++_)[j]?=_;rw[cX (aY.1 hj).1];exact hj
theorem nB {x:eE}(h:jY x):(dP x)[17]?=some (.slice x.vo x.vs.length x.vc):=by
 show (x.m.map encI++_)[16]?=_;rw[List.getElem?_append_right (by simp[h.len])];simp[h.len]
theorem nC {x:eE}(h:jY x):(dP x)[18]?=some (.slice x.tq x.ts.length x.tc):=by
 show (x.m.map encI++_)[17]?=_;rw[List.getElem?_append_right (by simp[h.len])];simp[h.len]
section
variable {H:Type} {enc:TypeId×Value→H} {w:World} {base:Nat} {held:Bool}
noncomputable def Ku {α:Type}[Inhabited α](Pp:Nat→α→Prop)(k:Nat):α:=open Classical in if h:∃x,Pp k x then Classical.choose h else default
theorem WJ {α:Type}[Inhabited α]{Pp:Nat→α→Prop}{k:Nat}(h:∃x,Pp k x):Pp k (Ku Pp k):=by
 unfold Ku;rw[dif_pos h];exact Classical.choose_spec h
theorem uQ {α:Type}[Inhabited α]{n:Nat}{t e:TypeId}{P:Nat→Nat→α→Prop}(hn:0<n)(ht:prog.underlying t=some (.slice e))(hC:prog.cellsOf e=n)
  (each:∀ (fuel b j:Nat) (cs:List Value) (y:DataW H×List MemPlace),cs.length=n→(∀i,i<n→w.cell? ⟨b,j+i,none⟩=cs[i]?)→DataW.trod enc prog w base (fun _=>true) held fuel e cs=some y→∃z:α,P b j z)
  {fuel:Nat} {v:Value} {x:DataW H×List MemPlace} (hf:DataW.trod enc prog w base (fun _=>true) held fuel t [v]=some x) :
  ∃ (o:Option Addr) (l:List α) (c:Nat),v=.slice o l.length c∧pJ o l.length c∧nW P n o l:=by
 rcases DataW.trod_slice ht hf with ⟨hcs,_⟩|⟨a,len,cap,elems,rest,n',_,hcs,_,_,hl,hm,hlen,vR,_,_⟩
 ·simp only[List.cons.injEq,and_true] at hcs
  subst hcs;exact ⟨none,[],0,rfl,⟨by simp,fun _=>rfl⟩,fun k x hk=>by simp at hk⟩
 ·simp only[List.cons.injEq,and_true] at hcs
  subst hcs;rw[hC] at vR;obtain ⟨b,off,spot⟩:=a;have hsp:0<len→spot=none:=fun h0=>by
   have h1:=vR 0 h0;obtain ⟨y,hy⟩:∃y,elems[0]?=some y:=⟨_,aF (by omega)⟩;rw[hy,Option.bind_eq_some_iff] at h1;obtain ⟨cs,hc,ht⟩:=h1;obtain ⟨_,Av,hat⟩:=World.cells?_some hc;have h0:=hat 0 (by omega);obtain ⟨c0,hc0⟩:∃c0,cs[0]?=some c0:=⟨_,aF (by omega)⟩;rw[hc0] at h0
   simpa[Addr.add] using World.cell?_spot h0
  have each2:∀k,k<len→∃z:α,∃b' off',(⟨b,off,spot⟩:Addr)=⟨b',off',none⟩∧P b' (off'+k*n) z:=by
   intro k hk;obtain rfl:=hsp (by omega);have h1:=vR k hk;obtain ⟨y,hy⟩:∃y,elems[k]?=some y:=⟨_,aF (by omega)⟩;rw[hy,Option.bind_eq_some_iff] at h1;obtain ⟨cs,hc,ht⟩:=h1;obtain ⟨_,Av,hat⟩:=World.cells?_some hc;obtain ⟨z,hz⟩:=each _ b (off+k*n) cs y Av (fun i hi=>by have:=hat i hi;rw[Addr.add_lit,Addr.add_lit] at this;exact this) ht;exact ⟨z,b,off,rfl,hz⟩
  refine ⟨some ⟨b,off,spot⟩,(List.range len).map (Ku fun k z=>∃b' off',(⟨b,off,spot⟩:Addr)=⟨b',off',none⟩∧P b' (off'+k*n) z),cap,by simp,⟨⟨by simpa using hl,by unfold maxLen at hm;omega⟩,fun h=>by cases h⟩,fun k z hk=>?_⟩;rw[bZ] at hk;obtain ⟨k',hk',rfl⟩:=Option.map_eq_some_iff.1 hk;have wI:=(aY.1 hk').1;have Wh:k'=k:=by
   rw[List.getElem?_range (by simpa using wI)] at hk';exact (bK hk').symm
  subst Wh;obtain ⟨b',off',e',hP⟩:=WJ (Pp:=fun k z=>∃b' off',(⟨b,off,spot⟩:Addr)=⟨b',off',none⟩∧P b' (off'+k*n) z) (each2 k' (by simpa using wI));exact ⟨b',off',by rw[e'],hP⟩
theorem uX {z:Int}(h:(Lit.int .i64 z).wf=true):Num z:=JJ h
theorem Tx {z:Int}(h:(Lit.int .u32 z).wf=true):0≤z∧z<4294967296:=by
 simp[Lit.wf,IntKind.min,IntKind.max,IntKind.signed,IntKind.bits] at h;omega
theorem pT {b j n:Nat}{cs:List Value}(hl:cs.length=n)(hat:∀i,i<n→w.cell? ⟨b,j+i,none⟩=cs[i]?):w.rangeAt b j cs:=fun i v hi=>by
 rw[hat i (by have:=(aY.1 hi).1;omega)];exact hi
theorem Ua {fuel:Nat}{b j:Nat}{cs:List Value}{y:DataW H×List MemPlace}(hlen:cs.length=3)(hat:∀i,i<3→w.cell? ⟨b,j+i,none⟩=cs[i]?)
  (h:DataW.trod enc prog w base (fun _=>true) held fuel 85 cs=some y):∃v:List Int,w.rangeAt b j (v.map encI)∧jI v:=by
 obtain ⟨h1,h2,_⟩:=JM cU underlying2 (by kernel_rfl) (by kernel_rfl) h;obtain ⟨m,rfl,hw⟩:=BF _ h1;exact ⟨m,pT hlen hat,⟨by simpa using h2,VG hw⟩⟩
theorem uo {fuel:Nat}{b j:Nat}{cs:List Value}{y:DataW H×List MemPlace}(hlen:cs.length=4)(hat:∀i,i<4→w.cell? ⟨b,j+i,none⟩=cs[i]?)
  (h:DataW.trod enc prog w base (fun _=>true) held fuel 87 cs=some y):∃t:gB,w.rangeAt b j (fC t)∧mN t:=by
 have hr:=pT hlen hat
 match cs,hlen with
 | [v0,v1,v2,v3],_ =>
  obtain ⟨xs,n,_,_,_,hl,hf⟩:=DataW.trod_struct cR h;have k1:prog.cellsOf 3=1:=by kernel_rfl
  have k2:prog.cellsOf 67=1:=by kernel_rfl
  match xs,hl with
  | [y0,y1,y2,y3],_ =>
   have e0:DataW.trod enc prog w base (fun _=>true) held n 3 [v0]=some y0:=by
    have h0:=hf 0 _ rfl;dsimp only[List.getElem_toArray,List.getElem_cons_zero,List.getElem_cons_succ,List.getElem?_cons_zero,List.getElem?_cons_succ] at h0;rw[k1] at h0;exact h0
   have e1:DataW.trod enc prog w base (fun _=>true) held n 3 [v1]=some y1:=by
    have h0:=hf 1 _ rfl;dsimp only[List.getElem_toArray,List.getElem_cons_zero,List.getElem_cons_succ,List.getElem?_cons_zero,List.getElem?_cons_succ] at h0;rw[k1] at h0;exact h0
   have e2:DataW.trod enc prog w base (fun _=>true) held n 3 [v2]=some y2:=by
    have h0:=hf 2 _ rfl;dsimp only[List.getElem_toArray,List.getElem_cons_zero,List.getElem_cons_succ,List.getElem?_cons_zero,List.getElem?_cons_succ] at h0;rw[k1] at h0;exact h0
   have e3:DataW.trod enc prog w base (fun _=>true) held n 67 [v3]=some y3:=by
    have h0:=hf 3 _ rfl;dsimp only[List.getElem_toArray,List.getElem_cons_zero,List.getElem_cons_succ,List.getElem?_cons_zero,List.getElem?_cons_succ] at h0;rw[k2] at h0;exact h0
   obtain ⟨z0,q0,_,w0⟩:=DataW.trod_int dC e0;obtain ⟨z1,q1,_,w1⟩:=DataW.trod_int dC e1;obtain ⟨z2,q2,_,w2⟩:=DataW.trod_int dC e2;obtain ⟨z3,q3,_,w3⟩:=DataW.trod_int underlying67 e3;simp only[List.cons.injEq,and_true] at q0 q1 q2 q3;subst q0 q1 q2 q3;exact ⟨⟨z0,z1,z2,z3⟩,hr,⟨uX w0,uX w1,uX w2,Tx w3⟩⟩
theorem zm {fuel:Nat}{b j:Nat}{cs:List Value}{y:DataW H×List MemPlace}(hlen:cs.length=19)(hat:∀i,i<19→w.cell? ⟨b,j+i,none⟩=cs[i]?)
  (h:DataW.trod enc prog w base (fun _=>true) held fuel 73 cs=some y):∃x:eE,nR w b j x:=by
 have hr:=pT hlen hat
 match cs,hlen with
 | [v0,v1,v2,v3,v4,v5,v6,v7,v8,v9,v10,v11,v12,v13,v14,v15,v16,v17,v18],_ =>
  obtain ⟨xs,n,_,_,_,hl,hf⟩:=DataW.trod_struct bW h;have k1:prog.cellsOf 3=1:=by kernel_rfl
  have k2:prog.cellsOf 25=16:=by kernel_rfl
  have k3:prog.cellsOf 70=1:=by kernel_rfl
  have k4:prog.cellsOf 71=1:=by kernel_rfl
  match xs,hl with
  | [y0,y1,y2,y3],_ =>
   have e0:DataW.trod enc prog w base (fun _=>true) held n 3 [v0]=some y0:=by
    have h0:=hf 0 _ rfl;dsimp only[List.getElem_toArray,List.getElem_cons_zero,List.getElem_cons_succ,List.getElem?_cons_zero,List.getElem?_cons_succ] at h0;rw[k1] at h0;exact h0
   have e1:DataW.trod enc prog w base (fun _=>true) held n 25 [v1,v2,v3,v4,v5,v6,v7,v8,v9,v10,v11,v12,v13,v14,v15,v16]=some y1:=by
    have h0:=hf 1 _ rfl;dsimp only[List.getElem_toArray,List.getElem_cons_zero,List.getElem_cons_succ,List.getElem?_cons_zero,List.getElem?_cons_succ] at h0;rw[k2] at h0;exact h0
   have e2:DataW.trod enc prog w base (fun _=>true) held n 70 [v17]=some y2:=by
    have h0:=hf 2 _ rfl;dsimp only[List.getElem_toArray,List.getElem_cons_zero,List.getElem_cons_succ,List.getElem?_cons_zero,List.getElem?_cons_succ] at h0;rw[k3] at h0;exact h0
   have e3:DataW.trod enc prog w base (fun _=>true) held n 71 [v18]=some y3:=by
    have h0:=hf 3 _ rfl;dsimp only[List.getElem_toArray,List.getElem_cons_zero,List.getElem_cons_succ,List.getElem?_cons_zero,List.getElem?_cons_succ] at h0;rw[k4] at h0;exact h0
   obtain ⟨z0,q0,_,w0⟩:=DataW.trod_int dC e0;obtain ⟨h1,h2,_⟩:=JL aU cP underlying2 (by kernel_rfl) (by kernel_rfl) (by kernel_rfl) (by omega) e1;obtain ⟨m,hm,hw⟩:=BF _ h1;have jH:m.length=16:=by
    have:=congrArg List.length hm
    simpa using this.symm
   obtain ⟨vo,vs,vc,q2,hv1,hv2⟩:=uQ (P:=fun b j v=>w.rangeAt b j (v.map encI)∧jI v) (n:=3) (by omega) dD (by kernel_rfl) (fun _ _ _ _ _ hl hat h=>Ua hl hat h) e2;obtain ⟨tq,ts,tc,q3,zQ,tX⟩:=uQ (P:=fun b j t=>w.rangeAt b j (fC t)∧mN t) (n:=4) (by omega) cV (by kernel_rfl) (fun _ _ _ _ _ hl hat h=>uo hl hat h) e3;simp only[List.cons.injEq,and_true] at q0;refine ⟨⟨z0,m,vo,vs,vc,tq,ts,tc⟩,?_,hv2,tX,⟨uX w0,jH,VG hw,hv1,zQ⟩⟩;have e:dP ⟨z0,m,vo,vs,vc,tq,ts,tc⟩=[v0,v1,v2,v3,v4,v5,v6,v7,v8,v9,v10,v11,v12,v13,v14,v15,v16,v17,v18]:=by
    unfold dP;dsimp only;rw[←hm,←q2,←q3,←q0];rfl
   rw[e];exact hr
end
instance:Inhabited eF:=⟨⟨0,0,[],none,[],0⟩⟩
structure KW (W:World)(b j:Nat)(s:eF):Prop where
 cells:W.rangeAt b j (fP s)
 objs:eN W s.oo s.os
 wf:iA s
def pE (W:World)(o:Option Addr)(l:List eF):Prop:=nW (KW W) 19 o l
theorem KW.below {w W:World}{b j:Nat}{s:eF}(hb:Below w.heap.size w W)(h:KW w b j s):KW W b j s:=⟨iC hb h.cells,h.objs.below hb,h.wf⟩
theorem pE.below {w W:World}{o:Option Addr}{l:List eF}(hb:Below w.heap.size w W)(h:pE w o l):pE W o l:=fun k z hk=>by
 obtain ⟨b,off,e,h1⟩:=h k z hk;exact ⟨b,off,e,h1.below hb⟩
section
variable {H:Type} {enc:TypeId×Value→H} {w:World} {base:Nat} {held:Bool}
theorem sc_of {fuel:Nat}{b j:Nat}{cs:List Value}{y:DataW H×List MemPlace}(hlen:cs.length=19)(hat:∀i,i<19→w.cell? ⟨b,j+i,none⟩=cs[i]?)
  (h:DataW.trod enc prog w base (fun _=>true) held fuel 28 cs=some y):∃s:eF,KW w b j s:=by
 have hr:=pT hlen hat
 match cs,hlen with
 | [v0,v1,v2,v3,v4,v5,v6,v7,v8,v9,v10,v11,v12,v13,v14,v15,v16,v17,v18],_ =>
  obtain ⟨xs,n,_,_,_,hl,hf⟩:=DataW.trod_struct aW h;have k1:prog.cellsOf 3=1:=by kernel_rfl
  have k2:prog.cellsOf 25=16:=by kernel_rfl
  have k3:prog.cellsOf 26=1:=by kernel_rfl
  match xs,hl with
  | [y0,y1,y2,y3],_ =>
   have e0:DataW.trod enc prog w base (fun _=>true) held n 3 [v0]=some y0:=by
    have h0:=hf 0 _ rfl;dsimp only[List.getElem_toArray,List.getElem_cons_zero,List.getElem_cons_succ,List.getElem?_cons_zero,List.getElem?_cons_succ] at h0;rw[k1] at h0;exact h0
   have e1:DataW.trod enc prog w base (fun _=>true) held n 3 [v1]=some y1:=by
    have h0:=hf 1 _ rfl;dsimp only[List.getElem_toArray,List.getElem_cons_zero,List.getElem_cons_succ,List.getElem?_cons_zero,List.getElem?_cons_succ] at h0;rw[k1] at h0;exact h0
   have e2:DataW.trod enc prog w base (fun _=>true) held n 25 [v2,v3,v4,v5,v6,v7,v8,v9,v10,v11,v12,v13,v14,v15,v16,v17]=some y2:=by
    have h0:=hf 2 _ rfl;dsimp only[List.getElem_toArray,List.getElem_cons_zero,List.getElem_cons_succ,List.getElem?_cons_zero,List.getElem?_cons_succ] at h0;rw[k2] at h0;exact h0
   have e3:DataW.trod enc prog w base (fun _=>true) held n 26 [v18]=some y3:=by
    have h0:=hf 3 _ rfl;dsimp only[List.getElem_toArray,List.getElem_cons_zero,List.getElem_cons_succ,List.getElem?_cons_zero,List.getElem?_cons_succ] at h0;rw[k3] at h0;exact h0
   obtain ⟨z0,q0,_,w0⟩:=DataW.trod_int dC e0;obtain ⟨z1,q1,_,w1⟩:=DataW.trod_int dC e1;obtain ⟨h1,h2,_⟩:=JL aU cP underlying2 (by kernel_rfl) (by kernel_rfl) (by kernel_rfl) (by omega) e2;obtain ⟨m,hm,hw⟩:=BF _ h1;have jH:m.length=16:=by
    have:=congrArg List.length hm
    simpa using this.symm
   obtain ⟨o,os,c,q3,Ap,sA⟩:=uQ (P:=nR w) (n:=19) (by omega) dA (by kernel_rfl) (fun _ _ _ _ _ hl hat h=>zm hl hat h) e3;simp only[List.cons.injEq,and_true] at q0 q1;refine ⟨⟨z0,z1,m,o,os,c⟩,?_,sA,⟨uX w0,uX w1,jH,VG hw,Ap⟩⟩;have e:fP ⟨z0,z1,m,o,os,c⟩=[v0,v1,v2,v3,v4,v5,v6,v7,v8,v9,v10,v11,v12,v13,v14,v15,v16,v17,v18]:=by
    unfold fP;dsimp only;rw[←hm,←q3,←q0,←q1];rfl
   rw[e];exact hr
theorem QV {r:Reach}{b0:Nat}{v:Value}{d:DataW H}{ps:List MemPlace}
  (hv:Value.okWide prog w r b0 52 v) (h:DataW.Trod enc prog w base (fun _=>true) held 52 v d ps) :
  ∃ (xs:List eF) (o:Option Addr) (c:Nat),v=.slice o xs.length c∧pJ o xs.length c∧pE w o xs:=by
 obtain ⟨a1,len,cap,rfl⟩:=okWide_slice cW hv;obtain ⟨fuel,hf⟩:=h;obtain ⟨o,l,c,e,h1,h2⟩:=uQ (P:=KW w) (n:=19) (by omega) cW (by kernel_rfl) (fun _ _ _ _ _ hl hat h=>sc_of hl hat h) hf;exact ⟨l,o,c,e,h1,h2⟩
end
end Fx
namespace Fx
open Go Go.RowKit Wm
def Dg (d:List Nat):Prop:=d.length=20∧∀x∈d,x<65536
def zZ:List Nat→List Nat→Nat→List Nat
 | x::xs,y::ys,c=>(x+y+c)%65536::zZ xs ys ((x+y+c)/65536)
 | _,_,_=>[]
def pad (p:List Nat):List Nat:=p++List.replicate (20-p.length) 0
theorem AV (p:List Nat)(v:Nat)(neg:Bool)(h:p.length<20):(dW neg (pad p)).setIfInBounds (1+p.length) (.int .u64 (v:Int))=dW neg (pad (p++[v])):=by
 unfold dW pad;rw[List.setIfInBounds_toArray]
 congr 1
 rw[Nat.add_comm,List.set_cons_succ]
 congr 1
 rw[show 20-p.length=(20-(p++[v]).length)+1 from by simp;omega,List.replicate_succ];simp[rN,List.set_append_right]
theorem kJ (neg:Bool)(d:List Nat)(k:Nat)(h:k<d.length):(dW neg d)[1+k]?=some (.int .u64 ((d.getD k 0:Nat):Int)):=by
 unfold dW;rw[List.getElem?_toArray,Nat.add_comm,List.getElem?_cons_succ,bZ];simp[aS,h,rN]
theorem AX (p:List Nat)(h:p.length≤20):(pad p).length=20:=by simp[pad];omega
structure MInv (nx ny:Bool)(dx dy:List Nat)(w:World)(k c:Nat)(p:List Nat)(wr:World):Prop where
 kl:k≤20
 pl:p.length=k
 cl:c≤1
 eq:zZ dx dy 0=p++zZ (dx.drop k) (dy.drop k) c
 bx:wr.heap[w.heap.size]?=some (.cells (dW nx dx) 214 (0,0))
 yR:wr.heap[w.heap.size+1]?=some (.cells (dW ny dy) 214 (0,0))
 bz:wr.heap[w.heap.size+1+1+1]?=some (.cells (dW false (pad p)) 214 (0,0))
 br:wr.heap[w.heap.size+1+1]?=some (.cells (dW false zeros) 214 (0,0))
 below:Below w.heap.size w wr
theorem qK (w:World)(A B C D:Obj):(((((w.alloc A).alloc B).alloc C).alloc D).heap[w.heap.size]?=some A∧((((w.alloc A).alloc B).alloc C).alloc D).heap[w.heap.size+1]?=some B)∧((((w.alloc A).alloc B).alloc C).alloc D).heap[w.heap.size+1+1]?=some C∧((((w.alloc A).alloc B).alloc C).alloc D).heap[w.heap.size+1+1+1]?=some D:=by
 have h0:(w.alloc A).heap[w.heap.size]?=some A:=aG w A;have h1:((w.alloc A).alloc B).heap[w.heap.size+1]?=some B:=heap_alloc2_new w A B;have h2:(((w.alloc A).alloc B).alloc C).heap[w.heap.size+1+1]?=some C:=by
  have:=aG ((w.alloc A).alloc B) C
  simpa only[aR] using this
 have h3:((((w.alloc A).alloc B).alloc C).alloc D).heap[w.heap.size+1+1+1]?=some D:=by
  have:=aG (((w.alloc A).alloc B).alloc C) D
  simpa only[aR] using this
 exact ⟨⟨dM (dM (dM h0)),dM (dM h1)⟩,dM h2,h3⟩
theorem Gz (dx dy:List Nat)(k c:Nat)(hx:k<dx.length)(hy:k<dy.length) :
  zZ (dx.drop k) (dy.drop k) c=((dx.getD k 0+dy.getD k 0+c)%65536)::zZ (dx.drop (k+1)) (dy.drop (k+1)) ((dx.getD k 0+dy.getD k 0+c)/65536):=by
 rw[List.drop_eq_getElem_cons hx,List.drop_eq_getElem_cons hy,zZ];simp[aS,hx,hy]
theorem MInv.next {nx ny:Bool}{dx dy:List Nat}{w wr:World}{k c a b nq:Nat}{p:List Nat}(I:MInv nx ny dx dy w k c p wr)(hx:Dg dx)(hy:Dg dy)(hk:k<20)(ha:dx.getD k 0=a)(hb:dy.getD k 0=b)(ha1:a<65536)(hb1:b<65536) :
  MInv nx ny dx dy w (k+1) ((a+b+c)/65536) (p++[(a+b+c)%65536]) ((wr.drewN nq).setCell ⟨w.heap.size+1+1+1,1+k,none⟩ (.int .u64 (((a+b+c)%65536:Nat):Int))):=by
 have hc:=I.cl;have hp:=I.pl;have hz:(wr.drewN nq).heap[w.heap.size+1+1+1]?=some (.cells (dW false (pad p)) 214 (0,0)):=I.bz;refine { kl:=(by omega),pl:=(by rw[aI,hp];rfl),cl:=(by omega),eq:=?_,bx:=?_,yR:=?_,bz:=?_,br:=?_,below:=?_ }
 ·rw[I.eq,Gz dx dy k c (by rw[hx.1];exact hk) (by rw[hy.1];exact hk),ha,hb,bM]
  rfl
 ·rw[aK _ _ _ _ (show w.heap.size≠w.heap.size+1+1+1 by omega)];exact I.bx
 ·rw[aK _ _ _ _ (show w.heap.size+1≠w.heap.size+1+1+1 by omega)];exact I.yR
 ·rw[aM _ _ _ _ _ _ hz,←hp,AV p _ false (by omega)]
 ·rw[aK _ _ _ _ (show w.heap.size+1+1≠w.heap.size+1+1+1 by omega)];exact I.br
 ·exact Below.setCell (show Below w.heap.size w (wr.drewN nq) from ⟨I.below.os,I.below.tape,I.below.output,I.below.size,I.below.block⟩) (show w.heap.size≤w.heap.size+1+1+1 by omega) _
def MRel (nx ny:Bool)(dx dy:List Nat)(w:World)(g:Nat)(s6 s7:Value)(wr:World):Prop :=
 ∃k c p,g=20-k∧s6=.int .u64 ((c:Nat):Int)∧s7=.int .i64 ((k:Nat):Int)∧MInv nx ny dx dy w k c p wr
def sP (neg:Bool)(d:List Nat)(w:World)(e:Ending)(w':World):Prop:=e=.returned (.agg (dW neg d))∧Below w.heap.size w w'
theorem xF (nx ny:Bool)(dx dy:List Nat)(w:World)(hx:Dg dx)(hy:Dg dy) :
  Calls prog 165 #[.agg (dW nx dx),.agg (dW ny dy)] w (sP false (zZ dx dy 0) w):=by
 have HX:=aA hx;have HY:=aA hy;clear hx hy;go_enter func165,ntmps165;go_wp2_with fail;go_loopg[6,7] 20 (MRel nx ny dx dy w)
 case atStart =>
  refine ⟨0,0,[],rfl,rfl,rfl,?_⟩;refine { kl:=(by omega),pl:=rfl,cl:=(by omega),eq:=rfl,bx:=?_,yR:=?_,bz:=?_,br:=?_,below:=(by go_grown) }
  ·exact (qK w _ _ _ _).1.1
  ·exact (qK w _ _ _ _).1.2
  ·exact (qK w _ _ _ _).2.2
  ·exact (qK w _ _ _ _).2.1
 case round =>
  obtain ⟨k,c,p,rfl,rfl,rfl,I⟩:=hrel;have HI:=aA I;by_cases hk:k<20
  ·obtain ⟨a,ha⟩:∃a,dx.getD k 0=a:=⟨_,rfl⟩
   obtain ⟨b,hb⟩:∃b,dy.getD k 0=b:=⟨_,rfl⟩;have ha1:a<65536:=HX.out.2 a (by rw[←ha];have:=HX.out.1;simp[aS,show k<dx.length by omega]);have hb1:b<65536:=HY.out.2 b (by rw[←hb];have:=HY.out.1;simp[aS,show k<dy.length by omega]);have cx:wr.cell? ⟨w.heap.size,1+k,none⟩=some (.int .u64 (a:Int)):=by rw[aD _ _ _ _ _ _ I.bx,kJ _ _ _ (by rw[HX.out.1];exact hk),ha]
   have cy:wr.cell? ⟨w.heap.size+1,1+k,none⟩=some (.int .u64 (b:Int)):=by rw[aD _ _ _ _ _ _ I.yR,kJ _ _ _ (by rw[HY.out.1];exact hk),hb]
   have cz:wr.cell? ⟨w.heap.size+1+1+1,1+k,none⟩=some (.int .u64 (((pad p).getD k 0:Nat):Int)):=by rw[aD _ _ _ _ _ _ I.bz,kJ _ _ _ (by rw[AX p (by have:=I.pl;omega)];exact hk)]
   have fz:wr.frozen? ⟨w.heap.size+1+1+1,1+k,none⟩=false:=dJ I.bz;have hc1:=I.cl;have k0:(0:Int)≤(k:Int):=by omega
   have k1:(k:Int)<20:=by omega
   have HA:=aA ha;have HB:=aA hb;clear ha hb I;go_wp2_with fail
   go_quiet (fail)
   go_wp2_with fail;go_roundg (20-(k+1))
   case measure=>omega
   case rel=>exact ⟨k+1,_,_,rfl,by go_num,by go_num,by have:=HI.out.next (nq:=nq) HX.out HY.out hk HA.out HB.out ha1 hb1;simpa using this⟩
  ·have XF:k=20:=by have:=I.kl;omega
   have hp:=I.pl;have hpd:pad p=p:=by unfold pad;rw[hp,XF];simp
   have hres:zZ dx dy 0=p:=by
    rw[I.eq,XF,List.drop_of_length_le (by rw[HX.out.1];omega)];simp[zZ]
   have bz:=I.bz;have br:=I.br;rw[hpd] at bz;have hpl:p.length=20:=by omega
   have hs1:(dW false p).size=21:=by rw[uH,hpl]
   have vQ:(prog.info? 214).map (·.size)=some (dW false p).size:=by rw[VS,hs1]
   have hs0:(dW false zeros).size=(dW false p).size:=by rw[hs1];rfl
   have k1:¬ (k:Int)<20:=by omega
   have HRES:=aA hres;have BZ:=aA bz;have BR:=aA br;have nX:=aA vQ;have wO:=aA hs0;have BB:=aA I.below;clear XF hp hpd hres bz br hpl hs1 vQ hs0 I;go_wp2_with (first|(refine wpList_load_row rfl 214 (.tmp 5) rfl (w.heap.size+1+1+1) rfl _ _ _ _ BZ.out aH rfl nX.out ?_)|(refine dG rfl 214 (.tmp 4) (.tmp 31) rfl (w.heap.size+1+1) _ _ (dW false p) rfl rfl BR.out nX.out wO.out (gG _ _) ?_))
   refine aO (v:=.agg (dW false p)) (results_cell_row rfl _ _ (w.heap.size+1+1) _ _ _ _ rfl (setRow_heap _ _ _ _ _ _ BR.out) aH rfl nX.out) rfl ?_;rw[HRES.out];exact ⟨rfl,Below.row BB.out (by omega) _⟩
def tT (dx dy:List Nat):Nat→Bool
 | 0=>false
 | k+1=>if dx.getD k 0=dy.getD k 0 then tT dx dy k else decide (dx.getD k 0<dy.getD k 0)
def LRel (nx ny:Bool)(dx dy:List Nat)(w:World)(g:Nat)(s5:Value)(wr:World):Prop :=
 ∃k:Nat,k=g∧k≤20∧s5=.int .i64 ((k:Int)-1)∧tT dx dy 20=tT dx dy k∧wr.heap[w.heap.size]?=some (.cells (dW nx dx) 214 (0,0)) ∧
  wr.heap[w.heap.size+1]?=some (.cells (dW ny dy) 214 (0,0))∧Below w.heap.size w wr
theorem QZ (nx ny:Bool)(dx dy:List Nat)(w:World)(hx:dx.length=20)(hy:dy.length=20) :
  Calls prog 166 #[.agg (dW nx dx),.agg (dW ny dy)] w fun e w'=>e=.returned (.bool (tT dx dy 20))∧Below w.heap.size w w':=by
 have HX:=aA hx;have HY:=aA hy;clear hx hy;go_enter func166,ntmps166;go_wp2_with fail;go_loopg[5] 20 (LRel nx ny dx dy w)
 case atStart=>exact ⟨20,rfl,by omega,rfl,rfl,dM (aG _ _),heap_alloc2_new w _ _,by go_grown⟩
 case round =>
  obtain ⟨k,rfl,hk,rfl,hl,bx,bb,hB⟩:=hrel;have HL:=aA hl;have BX:=aA bx;have BY:=aA bb;have HB:=aA hB;clear hl bx bb hB
  match k,hk with
  | 0,hk =>
   go_wp2_with fail;go_ret;exact ⟨by rw[HL.out];rfl,HB.out⟩
  | j+1,hk =>
   obtain ⟨a,ha⟩:∃a,dx.getD j 0=a:=⟨_,rfl⟩;obtain ⟨b,hb⟩:∃b,dy.getD j 0=b:=⟨_,rfl⟩;have cx:wr.cell? ⟨w.heap.size,1+j,none⟩=some (.int .u64 (a:Int)):=by rw[aD _ _ _ _ _ _ BX.out,kJ _ _ _ (by rw[HX.out];omega),ha]
   have cy:wr.cell? ⟨w.heap.size+1,1+j,none⟩=some (.int .u64 (b:Int)):=by rw[aD _ _ _ _ _ _ BY.out,kJ _ _ _ (by rw[HY.out];omega),hb]
   have k0:(0:Int)≤(j:Int):=by omega
   have k1:(j:Int)<20:=by omega
   have e1:((j+1:Nat):Int)-1=(j:Int):=by omega
   rw[e1];have HA:Hid (dx.getD j 0=a):=aA ha;have zK:Hid (dy.getD j 0=b):=aA hb;clear ha hb e1;by_cases hab:a=b
   ·have t1:((a:Int) != (b:Int))=false:=by simp;omega
    have NX:Hid (tT dx dy 20=tT dx dy j):=aA (by rw[HL.out];show (if dx.getD j 0=dy.getD j 0 then _ else _)=_;rw[aZ (by rw[HA.out,zK.out];exact hab)]);clear hab;go_wp2_with fail
    go_quiet (fail)
    go_wp2_with fail;go_roundg j
    case measure=>omega
    case rel=>exact ⟨j,rfl,by omega,rfl,NX.out,BX.out,BY.out,nV _ HB.out⟩
   ·have t1:((a:Int) != (b:Int))=true:=by simp;omega
    have NX:Hid (tT dx dy 20=decide (a<b)):=aA (by rw[HL.out];show (if dx.getD j 0=dy.getD j 0 then _ else _)=_;rw[bF (by rw[HA.out,zK.out];exact hab),HA.out,zK.out]);clear hab;go_wp2_with fail
    go_quiet (fail)
    go_wp2_with fail
    go_quiet (fail)
    go_wp2_with fail;go_ret;exact ⟨Kl NX.out.symm,nV _ (nV _ HB.out)⟩
def zN:List Nat→List Nat→Nat→List Nat
 | x::xs,y::ys,c=>(x+65536-y-c)%65536::zN xs ys (1-(x+65536-y-c)/65536)
 | _,_,_=>[]
structure Ze (nx ny:Bool)(dx dy:List Nat)(w:World)(k c:Nat)(p:List Nat)(wr:World):Prop where
 kl:k≤20
 pl:p.length=k
 cl:c≤1
 eq:zN dx dy 0=p++zN (dx.drop k) (dy.drop k) c
 bx:wr.heap[w.heap.size]?=some (.cells (dW nx dx) 214 (0,0))
 yR:wr.heap[w.heap.size+1]?=some (.cells (dW ny dy) 214 (0,0))
 bz:wr.heap[w.heap.size+1+1+1]?=some (.cells (dW false (pad p)) 214 (0,0))
 br:wr.heap[w.heap.size+1+1]?=some (.cells (dW false zeros) 214 (0,0))
 below:Below w.heap.size w wr
theorem Dx (dx dy:List Nat)(k c:Nat)(hx:k<dx.length)(hy:k<dy.length) :
  zN (dx.drop k) (dy.drop k) c=((dx.getD k 0+65536-dy.getD k 0-c)%65536)::zN (dx.drop (k+1)) (dy.drop (k+1)) (1-(dx.getD k 0+65536-dy.getD k 0-c)/65536):=by
 rw[List.drop_eq_getElem_cons hx,List.drop_eq_getElem_cons hy,zN];simp[aS,hx,hy]
theorem Ze.next {nx ny:Bool}{dx dy:List Nat}{w wr:World}{k c a b s nq:Nat}{p:List Nat}(I:Ze nx ny dx dy w k c p wr)(hx:Dg dx)(hy:Dg dy)(hk:k<20)(ha:dx.getD k 0=a)(hb:dy.getD k 0=b)(ha1:a<65536)(hb1:b<65536)(hs:a+65536-b-c=s) :
  Ze nx ny dx dy w (k+1) (1-s/65536) (p++[s%65536]) ((wr.drewN nq).setCell ⟨w.heap.size+1+1+1,1+k,none⟩ (.int .u64 ((s%65536:Nat):Int))):=by
 have hc:=I.cl;have hp:=I.pl;have hz:(wr.drewN nq).heap[w.heap.size+1+1+1]?=some (.cells (dW false (pad p)) 214 (0,0)):=I.bz;refine { kl:=(by omega),pl:=(by rw[aI,hp];rfl),cl:=(by omega),eq:=?_,bx:=?_,yR:=?_,bz:=?_,br:=?_,below:=?_ }
 ·rw[I.eq,Dx dx dy k c (by rw[hx.1];exact hk) (by rw[hy.1];exact hk),ha,hb,hs,bM]
  rfl
 ·rw[aK _ _ _ _ (show w.heap.size≠w.heap.size+1+1+1 by omega)];exact I.bx
 ·rw[aK _ _ _ _ (show w.heap.size+1≠w.heap.size+1+1+1 by omega)];exact I.yR
 ·rw[aM _ _ _ _ _ _ hz,←hp,AV p _ false (by omega)]
 ·rw[aK _ _ _ _ (show w.heap.size+1+1≠w.heap.size+1+1+1 by omega)];exact I.br
 ·exact Below.setCell (show Below w.heap.size w (wr.drewN nq) from ⟨I.below.os,I.below.tape,I.below.output,I.below.size,I.below.block⟩) (show w.heap.size≤w.heap.size+1+1+1 by omega) _
def ARel (nx ny:Bool)(dx dy:List Nat)(w:World)(g:Nat)(s6 s7:Value)(wr:World):Prop :=
 ∃k c p,g=20-k∧s6=.int .u64 ((c:Nat):Int)∧s7=.int .i64 ((k:Nat):Int)∧Ze nx ny dx dy w k c p wr
theorem FU (nx ny:Bool)(dx dy:List Nat)(w:World)(hx:Dg dx)(hy:Dg dy) :
  Calls prog 167 #[.agg (dW nx dx),.agg (dW ny dy)] w (sP false (zN dx dy 0) w):=by
 have HX:=aA hx;have HY:=aA hy;clear hx hy;go_enter func167,ntmps167;go_wp2_with fail;go_loopg[6,7] 20 (ARel nx ny dx dy w)
 case atStart =>
  refine ⟨0,0,[],rfl,rfl,rfl,?_⟩;refine { kl:=(by omega),pl:=rfl,cl:=(by omega),eq:=rfl,bx:=?_,yR:=?_,bz:=?_,br:=?_,below:=(by go_grown) }
  ·exact (qK w _ _ _ _).1.1
  ·exact (qK w _ _ _ _).1.2
  ·exact (qK w _ _ _ _).2.2
  ·exact (qK w _ _ _ _).2.1
 case round =>
  obtain ⟨k,c,p,rfl,rfl,rfl,I⟩:=hrel;have HI:=aA I;by_cases hk:k<20
  ·obtain ⟨a,ha⟩:∃a,dx.getD k 0=a:=⟨_,rfl⟩
   obtain ⟨b,hb⟩:∃b,dy.getD k 0=b:=⟨_,rfl⟩;have ha1:a<65536:=HX.out.2 a (by rw[←ha];have:=HX.out.1;simp[aS,show k<dx.length by omega]);have hb1:b<65536:=HY.out.2 b (by rw[←hb];have:=HY.out.1;simp[aS,show k<dy.length by omega]);have cx:wr.cell? ⟨w.heap.size,1+k,none⟩=some (.int .u64 (a:Int)):=by rw[aD _ _ _ _ _ _ I.bx,kJ _ _ _ (by rw[HX.out.1];exact hk),ha]
   have cy:wr.cell? ⟨w.heap.size+1,1+k,none⟩=some (.int .u64 (b:Int)):=by rw[aD _ _ _ _ _ _ I.yR,kJ _ _ _ (by rw[HY.out.1];exact hk),hb]
   have cz:wr.cell? ⟨w.heap.size+1+1+1,1+k,none⟩=some (.int .u64 (((pad p).getD k 0:Nat):Int)):=by rw[aD _ _ _ _ _ _ I.bz,kJ _ _ _ (by rw[AX p (by have:=I.pl;omega)];exact hk)]
   have fz:wr.frozen? ⟨w.heap.size+1+1+1,1+k,none⟩=false:=dJ I.bz;have hc1:=I.cl;have k0:(0:Int)≤(k:Int):=by omega
   have k1:(k:Int)<20:=by omega
   obtain ⟨s,hs⟩:∃s,a+65536-b-c=s:=⟨_,rfl⟩;have s1:(a:Int)+65536-(b:Int)-(c:Int)=(s:Int):=by omega
   have s2:s<131072:=by omega
   have HS:=aA hs;have HA:=aA ha;have HB:=aA hb;clear ha hb hs I;go_wp2_with fail
   go_quiet (fail)
   go_wp2_with fail;go_roundg (20-(k+1))
   case measure=>omega
   case rel=>exact ⟨k+1,1-s/65536,_,rfl,by congr 1;omega,by go_num,by have:=HI.out.next (nq:=nq) HX.out HY.out hk HA.out HB.out ha1 hb1 HS.out;simpa using this⟩
  ·have XF:k=20:=by have:=I.kl;omega
   have hp:=I.pl;have hpd:pad p=p:=by unfold pad;rw[hp,XF];simp
   have hres:zN dx dy 0=p:=by
    rw[I.eq,XF,List.drop_of_length_le (by rw[HX.out.1];omega)];simp[zN]
   have bz:=I.bz;have br:=I.br;rw[hpd] at bz;have hpl:p.length=20:=by omega
   have hs1:(dW false p).size=21:=by rw[uH,hpl]
   have vQ:(prog.info? 214).map (·.size)=some (dW false p).size:=by rw[VS,hs1]
   have hs0:(dW false zeros).size=(dW false p).size:=by rw[hs1];rfl
   have k1:¬ (k:Int)<20:=by omega
   have HRES:=aA hres;have BZ:=aA bz;have BR:=aA br;have nX:=aA vQ;have wO:=aA hs0;have BB:=aA I.below;clear XF hp hpd hres bz br hpl hs1 vQ hs0 I;go_wp2_with (first|(refine wpList_load_row rfl 214 (.tmp 5) rfl (w.heap.size+1+1+1) rfl _ _ _ _ BZ.out aH rfl nX.out ?_)|(refine dG rfl 214 (.tmp 4) (.tmp 33) rfl (w.heap.size+1+1) _ _ (dW false p) rfl rfl BR.out nX.out wO.out (gG _ _) ?_))
   refine aO (v:=.agg (dW false p)) (results_cell_row rfl _ _ (w.heap.size+1+1) _ _ _ _ rfl (setRow_heap _ _ _ _ _ _ BR.out) aH rfl nX.out) rfl ?_;rw[HRES.out];exact ⟨rfl,Below.row BB.out (by omega) _⟩
theorem uI (neg x:Bool)(d:List Nat):(dW neg d).setIfInBounds 0 (.bool x)=dW x d:=by
 unfold dW;rw[List.setIfInBounds_toArray];rfl
theorem uJ (neg:Bool)(d:List Nat):(dW neg d)[0]?=some (.bool neg):=by
 unfold dW;rw[List.getElem?_toArray];rfl
theorem eR (neg:Bool)(d:List Nat)(h:d.length=20):(prog.info? 214).map (·.size)=some (dW neg d).size:=by rw[VS,uH,h]
theorem gU (a b:Bool)(d e:List Nat)(h:d.length=20)(g:e.length=20):(dW a d).size=(dW b e).size:=by rw[uH,uH,h,g]
theorem wpList_want {P:Program}{ops:Array Oper}{Q:Exit→Act→World→Prop}{rest:List Oper}{o:Oper}{a:Act}{w:World}(hw:Region.wanted o (yielded ops a.tmps)=true)
  (h:∀K:Act→World→Prop,(∀a w,wpList P ops Q rest a w→K a w)→o.wp P a w K Q):wpList P ops Q (o::rest) a w :=
 wpList_step fun K hK=>by rw[hw];simp only[if_true];exact h K hK
theorem iJ {P:Program}{ops:Array Oper}{rest:List Oper}{o:Oper}{a:Act}{w:World}{Q:Exit→Act→World→Prop}(hw:Region.wanted o (yielded ops a.tmps)=true)(ty:TypeId)(x:Operand)(ho:o.op=.load ty x)
  (g:Nat) (hx:a.eval x=.pointer (some ⟨g,0,none⟩)) (t:TypeId) (cs:Array Value) (fr:Nat×Nat) (d:TypeDesc) (hg:w.heap[g]?=some (.cells cs t fr))
  (hu:P.underlying ty=some d) (hd:(match d with | .struct _ | .array _ _=>true|_=>false)=true) (hi:(P.info? ty).map (·.size)=some cs.size)
  (h:wpList P ops Q rest (a.put o.dst (.agg cs)) w):wpList P ops Q (o::rest) a w :=
 wpList_want hw fun _ hK=>wp_load_row ty x ho g hx t cs fr d hg hu hd hi (hK _ _ h)
def WV (neg:Bool)(d:List Nat):Bool:=!neg && !(d == zeros)
theorem Vg (neg:Bool)(d:List Nat)(w:World)(hd:d.length=20) :
  Calls prog 168 #[.agg (dW neg d)] w (sP (WV neg d) d w):=by
 have HI:=aA (eR neg d hd);have jP:=aA (eR (WV neg d) d hd);have HS:=aA (gU false (WV neg d) zeros d rfl hd);have NA:=aA (fun w=>nM neg d w hd);have b0:((w.alloc (.cells (dW neg d) 214)).alloc (.cells (dW false zeros) 214)).heap[w.heap.size]?=some (.cells (dW neg d) 214 (0,0)):=dM (aG w _);have b1:((w.alloc (.cells (dW neg d) 214)).alloc (.cells (dW false zeros) 214)).heap[w.heap.size+1]?=some (.cells (dW false zeros) 214 (0,0)):=heap_alloc2_new w _ _;have B0:=aA b0;have B1:=aA b1;have c0:((w.alloc (.cells (dW neg d) 214)).alloc (.cells (dW false zeros) 214)).cell? ⟨w.heap.size,0,none⟩=some (.bool neg):=by rw[aD _ _ _ _ _ _ b0,uJ]
 have f0:((w.alloc (.cells (dW neg d) 214)).alloc (.cells (dW false zeros) 214)).frozen? ⟨w.heap.size,0,none⟩=false:=dJ b0;have hB:Below w.heap.size w ((w.alloc (.cells (dW neg d) 214)).alloc (.cells (dW false zeros) 214)):=by go_grown
 have hz:dW false zeros=#[.bool false,.int .u64 0,.int .u64 0,.int .u64 0,.int .u64 0,.int .u64 0,.int .u64 0,.int .u64 0,.int .u64 0,.int .u64 0,.int .u64 0,.int .u64 0,.int .u64 0,.int .u64 0,.int .u64 0,.int .u64 0,.int .u64 0,.int .u64 0,.int .u64 0,.int .u64 0,.int .u64 0]:=rfl;rw[hz] at c0 f0;clear b0 b1 hz hd
 cases neg with
 | true =>
  go_enter func168,ntmps168;have hL:((w.alloc (.cells ((dW true d).setIfInBounds 0 (.bool false)) 214)).alloc (.cells (dW false zeros) 214)).heap[w.heap.size]?=some (.cells (dW false d) 214 (0,0)):=by
   rw[←uI true false d];exact dM (aG w _)
  have hL2:((w.alloc (.cells ((dW true d).setIfInBounds 0 (.bool false)) 214)).alloc (.cells (dW false zeros) 214)).heap[w.heap.size+1]?=some (.cells (dW false zeros) 214 (0,0)):=heap_alloc2_new w _ _;have HL:=aA hL;have Hn:=aA hL2;clear hL hL2;go_wp2_with (first|(refine wpList_load_row rfl 214 (.tmp 1) rfl w.heap.size rfl _ _ _ _ HL.out aH rfl jP.out ?_)|(refine dG rfl 214 (.tmp 2) (.tmp 12) rfl (w.heap.size+1) _ _ (dW false d) rfl rfl Hn.out jP.out HS.out (gG _ _) ?_))
  refine aO (v:=.agg (dW false d)) (results_cell_row rfl _ _ (w.heap.size+1) _ _ _ _ rfl (setRow_heap _ _ _ _ _ _ Hn.out) aH rfl jP.out) rfl ?_;exact ⟨rfl,Below.row (by go_grown) (by omega) _⟩
 | false =>
  go_enter func168,ntmps168;go_wp2_with (refine iJ (by kernel_rfl) 214 (.tmp 1) rfl w.heap.size rfl _ _ _ _ B0.out aH rfl HI.out ?_)
  refine (NA.out _).mono ?_;rintro e w1 ⟨rfl,hb⟩;have k0:=dE hb c0;have g0:=dK hb (by simp only[aR];omega) f0;have R0:Hid ((w1.setCell ⟨w.heap.size,0,none⟩ (.bool (!(d == zeros)))).heap[w.heap.size]?=some (.cells (dW (WV false d) d) 214 (0,0))):=aA (by rw[aM _ _ _ _ _ _ (dL hb B0.out),uI];rfl);have R1:Hid ((w1.setCell ⟨w.heap.size,0,none⟩ (.bool (!(d == zeros)))).heap[w.heap.size+1]?=some (.cells (dW false zeros) 214 (0,0))):=aA (by rw[aK _ _ _ _ (show w.heap.size+1≠w.heap.size by omega)];exact dL hb B1.out);have HB:Hid (Below w.heap.size w w1):=aA (by (repeat' (first|(with_reducible exact aJ _ _)|(with_reducible assumption)|(with_reducible refine Below.drew ?_)|(with_reducible refine Below.setCell ?_ ?_ _)|(with_reducible refine dN ?_ (by assumption))|(with_reducible refine Below.alloc ?_ ?_ _)|go_size)));clear hb c0 f0 hB;go_wp2_with (first|(refine wpList_load_row rfl 214 (.tmp 1) rfl w.heap.size rfl _ _ _ _ R0.out aH rfl jP.out ?_)|(refine dG rfl 214 (.tmp 2) (.tmp 12) rfl (w.heap.size+1) _ _ (dW (WV false d) d) rfl rfl R1.out jP.out HS.out (gG _ _) ?_))
  refine aO (v:=.agg (dW (WV false d) d)) (results_cell_row rfl _ _ (w.heap.size+1) _ _ _ _ rfl (setRow_heap _ _ _ _ _ _ R1.out) aH rfl jP.out) rfl ?_;exact ⟨rfl,Below.row (HB.out.setCell (aB _) _) (by omega) _⟩
def nD:Nat→Nat→List Nat
 | 0,_=>[]
 | k+1,n=>n%65536::nD k (n/65536)
def dg (n:Nat):List Nat:=nD 20 n
theorem uZ:∀ (k n:Nat),(nD k n).length=k
 | 0,_=>rfl
 | k+1,n=>by rw[nD,bO,uZ k]
theorem Pn:∀ (k n:Nat),∀x∈nD k n,x<65536
 | 0,_,x,h=>by simp[nD] at h
 | k+1,n,x,h=>by
  rw[nD,List.mem_cons] at h
  rcases h with rfl|h
  ·omega
  ·exact Pn k _ x h
theorem uF (n:Nat):Dg (dg n):=⟨uZ 20 n,Pn 20 n⟩
theorem fD (n:Nat):(dg n).length=20:=uZ 20 n
theorem TY:∀ (k m n c:Nat),zZ (nD k m) (nD k n) c=nD k (m+n+c)
 | 0,_,_,_=>rfl
 | k+1,m,n,c=>by
  simp only[nD,zZ];rw[TY k]
  congr 1
  ·omega
  ·congr 1
   omega
theorem PV:∀ (k m n c:Nat),c≤1→n+c≤m→zN (nD k m) (nD k n) c=nD k (m-n-c)
 | 0,_,_,_,_,_=>rfl
 | k+1,m,n,c,hc,h=>by
  simp only[nD,zN];rw[PV k _ _ _ (by omega) (by omega)]
  congr 1
  ·omega
  ·congr 1
   omega
theorem yP:∀ (k n i:Nat),i<k→(nD k n).getD i 0=n/65536^i%65536
 | 0,_,_,h=>absurd h (by omega)
 | k+1,n,0,_=>by simp[nD]
 | k+1,n,i+1,h=>by
  rw[nD,List.getD_cons_succ,yP k _ i (by omega),Nat.div_div_eq_div_mul,bY,cF]
theorem RG (m n:Nat):∀k,k≤20→tT (dg m) (dg n) k=decide (m%65536^k<n%65536^k)
 | 0,_=>by simp[tT,Nat.mod_one]
 | k+1,h=>by
  rw[tT,RG m n k (by omega)];unfold dg;rw[yP 20 m k (by omega),yP 20 n k (by omega),Nat.mod_pow_succ,Nat.mod_pow_succ];have hp:0<65536^k:=Nat.pow_pos (by omega);have h1:m%65536^k<65536^k:=cO _ hp;have h2:n%65536^k<65536^k:=cO _ hp;generalize m/65536^k%65536=a;generalize n/65536^k%65536=b;generalize m%65536^k=u at *;generalize n%65536^k=v at *;generalize 65536^k=P at *
  split
  ·subst_vars
   simp
  ·rename_i hab
   rw[cJ]
   rcases Nat.lt_or_gt_of_ne hab with h|h
   ·refine ⟨fun _=>?_,fun _=>h⟩
    have : P*(a+1)≤P*b:=Nat.mul_le_mul_left _ h;rw[Nat.mul_add] at this;omega
   ·refine ⟨fun hh=>absurd hh (by omega),fun hh=>?_⟩
    have : P*(b+1)≤P*a:=Nat.mul_le_mul_left _ h;rw[Nat.mul_add] at this;omega
def BB:Nat:=65536^20
theorem Af {m n:Nat}(hm:m<BB)(hn:n<BB):tT (dg m) (dg n) 20=decide (m<n):=by
 rw[RG m n 20 (by omega)];unfold BB at hm hn;rw[Nat.mod_eq_of_lt hm,Nat.mod_eq_of_lt hn]
theorem Qf (m n:Nat):zZ (dg m) (dg n) 0=dg (m+n):=TY 20 m n 0
theorem VO {m n:Nat}(h:n≤m):zN (dg m) (dg n) 0=dg (m-n):=PV 20 m n 0 (by omega) (by omega)
theorem Ja:zeros=dg 0:=rfl
def num:List Nat→Nat
 | []=>0
 | x::xs=>x+65536*num xs
theorem ZU:∀ (k n:Nat),num (nD k n)=n%65536^k
 | 0,n=>by simp[nD,num,Nat.mod_one]
 | k+1,n=>by
  rw[nD,num,ZU k,bY,cF (65536^k),Nat.mod_mul]
theorem Lg {n:Nat}(h:n<BB):num (dg n)=n:=by
 unfold dg;rw[ZU];exact Nat.mod_eq_of_lt h
theorem Bo:∀ (d:List Nat),(∀x∈d,x<65536)→nD d.length (num d)=d
 | [],_=>rfl
 | x::d,h=>by
  have hx:=h x (by simp);rw[bO,nD,num,show (x+65536*num d)%65536=x by omega,show (x+65536*num d)/65536=num d by omega,Bo d fun y hy=>h y (by simp[hy])]
theorem dg_num {d:List Nat}(h:Dg d):dg (num d)=d:=by
 have:=Bo d h.2;rw[h.1] at this;exact this
theorem pY {n:Nat}(h:n<BB):(dg n == zeros)=decide (n=0):=by
 rw[Ja];by_cases hn:n=0
 ·subst hn
  simp
 ·rw[aN hn,beq_eq_false_iff_ne]
  intro e;have:=congrArg num e;rw[Lg h,Lg (by unfold BB;exact Nat.pow_pos (by omega))] at this;exact hn this
def bv (z:Int):Array Value:=dW (decide (z<0)) (dg z.natAbs)
theorem FM {n:Bool}{d:List Nat}{z:Int}(h1:n=decide (z<0))(h2:d=dg z.natAbs):dW n d=bv z:=by rw[h1,h2];rfl
def OB (z:Int)(w:World)(e:Ending)(w':World):Prop:=e=.returned (.agg (bv z))∧Below w.heap.size w w'
theorem Li (x:Int)(w:World)(hx:x.natAbs<BB):Calls prog 168 #[.agg (bv x)] w (OB (-x) w):=by
 refine (Vg (decide (x<0)) (dg x.natAbs) w (fD _)).mono ?_;rintro e w' ⟨rfl,hb⟩;refine ⟨?_,hb⟩;rw[FM (z:=-x) ?_ (by rw[Int.natAbs_neg])];unfold WV;rw[pY hx,Bool.eq_iff_iff];simp only[Bool.and_eq_true,Bool.not_eq_true',decide_eq_true_eq,decide_eq_false_iff_not];omega
end Fx
namespace Fx
open Go Go.RowKit Go.Shelf
attribute [local go_sem] Oper.semAt_some
def Sl (W:World)(o:Option Addr)(xs:List Int):Prop :=
 ∀j,j<xs.length→∃b off,o=some ⟨b,off,none⟩∧W.cell? ⟨b,off+j,none⟩=some (.int .i64 (xs.getD j 0))
theorem Sl.below {w W:World}(h:Below w.heap.size w W){o:Option Addr}{xs:List Int}(s:Sl w o xs):Sl W o xs:=fun j hj =>
 let ⟨b,off,e,hc⟩:=s j hj
 ⟨b,off,e,dE h hc⟩
def Qn (xs ys:List Int)(oa ob:Option Addr)(ca cb A B:Nat)(X:World):Prop :=
 X.cell? ⟨A,0,none⟩=some (.slice oa xs.length ca)∧X.cell? ⟨B,0,none⟩=some (.slice ob ys.length cb)∧Sl X oa xs∧Sl X ob ys
def DR (xs ys:List Int)(k:Nat):Array Value:=#[.int .i64 (xs.getD k 0),.int .i64 (ys.getD k 0)]
theorem QQ (xs ys:List Int)(oa ob:Option Addr)(ca cb A B:Nat)(lx:xs.length≤1000000)(ly:ys.length≤1000000) :
  Hands Fence.wide 4 prog 181 #[.pointer (some ⟨A,0,none⟩),.pointer (some ⟨B,0,none⟩)] (DR xs ys) (min xs.length ys.length) (Qn xs ys oa ob ca cb A B):=by
 intro l J Jx W Sk hJ2 UQ Fl hY h0;obtain ⟨ca',cb',_,_⟩:=UQ 0 W h0;have HY:=aA hY;clear hY;have PF:=aA Sk;clear Sk;have Yy:=aA UQ;clear UQ;have HJxB:=aA Fl;clear Fl;refine callsIn_of_wp func181 rfl trivial ?_ rfl;simp only[ntmps181,aL,bO,List.length_nil,Nat.reduceAdd,Nat.reduceSub,Array.replicate_succ,Array.replicate_zero,List.push_toArray,List.append_toArray,cB,cC];gi_wp2
 gi_loopw [10] (fun v10 wr=>∃k:Nat,v10=.int .i64 (k:Int)∧k≤min xs.length ys.length∧J k wr) (fun v10 _=>min xs.length ys.length-(intOf v10).toNat)
 case atStart=>exact ⟨0,rfl,by omega,h0⟩
 case round =>
  obtain ⟨k,rfl,jc,hJ⟩:=hrel;by_cases hk:k<min xs.length ys.length
  ·obtain ⟨_,_,sx,sy⟩:=Yy.out k wr hJ
   obtain ⟨b,off,rfl,hcx⟩:=sx k (by omega);obtain ⟨b2,off2,rfl,hcy⟩:=sy k (by omega);clear sx sy hcx hcy;have k1:(k:Int)<(xs.length:Int):=by omega
   have k2:(k:Int)<(ys.length:Int):=by omega
   have hJd:=PF.out k wr wr.drew hJ (eM _ wr 1);obtain ⟨fn,tmps,assign,body,hy,hR⟩:=HY.out k wr.drew hk hJd;dsimp only[DR] at hy;have HS:∀X,Qn xs ys (some ⟨b,off,none⟩) (some ⟨b2,off2,none⟩) ca cb A B X→X.cell? ⟨A,0,none⟩=some (.slice (some ⟨b,off,none⟩) xs.length ca)∧X.cell? ⟨B,0,none⟩=some (.slice (some ⟨b2,off2,none⟩) ys.length cb)∧X.cell? ⟨b,off+k,none⟩=some (.int .i64 (xs.getD k 0))∧X.cell? ⟨b2,off2+k,none⟩=some (.int .i64 (ys.getD k 0)):=fun X ⟨h1,h2,h3,h4⟩ =>
    ⟨h1,h2,by obtain ⟨_,_,e,h⟩:=h3 k (by omega);cases e;exact h,by obtain ⟨_,_,e,h⟩:=h4 k (by omega);cases e;exact h⟩
   obtain ⟨x,Rw⟩:∃x,xs.getD k 0=x:=⟨_,rfl⟩;obtain ⟨y,hyk⟩:∃y,ys.getD k 0=y:=⟨_,rfl⟩;rw[Rw] at hy HS;rw[hyk] at hy HS;have HSH:=aA HS;have n0:(0:Int)≤(k:Int):=by omega
   clear ca' cb' HS Rw hyk;gi_wp2;refine eI (S:=fun X=>X.cell? ⟨A,0,none⟩=some (.slice (some ⟨b,off,none⟩) xs.length ca)∧X.cell? ⟨B,0,none⟩=some (.slice (some ⟨b2,off2,none⟩) ys.length cb)∧X.cell? ⟨b,off+k,none⟩=some (.int .i64 x)∧X.cell? ⟨b2,off2+k,none⟩=some (.int .i64 y)) (by kernel_rfl) (HSH.out _ (Yy.out _ _ hJd)) (fun hHeld=>?_);refine dH (fun _=>trivial) (by kernel_rfl) (i:=0) (oi:=_) (v:=?_) rfl (by kernel_rfl) (by kernel_rfl) (by kernel_rfl) (fun _ _ _ h=>h) (by assumption) (Or.inl ⟨by kernel_rfl,?_⟩) ?_;rotate_left
   ·intro wz hSw;obtain ⟨c1,c2,c3,c4⟩:=hSw;(first|(go_simp;done)|(go_simp;with_reducible rfl))
   (try simp only[Act.put,List.setIfInBounds_toArray,List.set_cons_zero,List.set_cons_succ])
   refine dH (fun _=>trivial) (by kernel_rfl) (i:=1) (oi:=_) (v:=?_) rfl (by kernel_rfl) (by kernel_rfl) (by kernel_rfl) (fun _ _ _ h=>h) (by assumption) (Or.inl ⟨by kernel_rfl,?_⟩) ?_;rotate_left
   ·intro wz hSw;obtain ⟨c1,c2,c3,c4⟩:=hSw;(first|(go_simp;done)|(go_simp;with_reducible rfl))
   (try simp only[Act.put,List.setIfInBounds_toArray,List.set_cons_zero,List.set_cons_succ])
   refine dH (fun _=>trivial) (by kernel_rfl) (i:=2) (oi:=_) (v:=?_) rfl (by kernel_rfl) (by kernel_rfl) (by kernel_rfl) (fun _ _ _ h=>h) (by assumption) (Or.inl ⟨by kernel_rfl,?_⟩) ?_;rotate_left
   ·intro wz hSw;obtain ⟨c1,c2,c3,c4⟩:=hSw;(first|(go_simp;done)|(go_simp;with_reducible rfl))
   (try simp only[Act.put,List.setIfInBounds_toArray,List.set_cons_zero,List.set_cons_succ])
   refine dH (fun _=>trivial) (by kernel_rfl) (i:=3) (oi:=_) (v:=?_) rfl (by kernel_rfl) (by kernel_rfl) (by kernel_rfl) (fun _ _ _ h=>h) (by assumption) (Or.inl ⟨by kernel_rfl,?_⟩) ?_;rotate_left
   ·intro wz hSw;obtain ⟨c1,c2,c3,c4⟩:=hSw;(first|(go_simp;done)|(go_simp;with_reducible rfl))
   (try simp only[Act.put,List.setIfInBounds_toArray,List.set_cons_zero,List.set_cons_succ])
   refine dH (fun _=>trivial) (by kernel_rfl) (i:=4) (oi:=_) (v:=?_) rfl (by kernel_rfl) (by kernel_rfl) (by kernel_rfl) (fun _ _ _ h=>h) (by assumption) (Or.inl ⟨by kernel_rfl,?_⟩) ?_;rotate_left
   ·intro wz hSw;obtain ⟨c1,c2,c3,c4⟩:=hSw;(first|(go_simp;done)|(go_simp;with_reducible rfl))
   (try simp only[Act.put,List.setIfInBounds_toArray,List.set_cons_zero,List.set_cons_succ])
   refine dH (fun _=>trivial) (by kernel_rfl) (i:=5) (oi:=_) (v:=?_) rfl (by kernel_rfl) (by kernel_rfl) (by kernel_rfl) (fun _ _ _ h=>h) (by assumption) (Or.inl ⟨by kernel_rfl,?_⟩) ?_;rotate_left
   ·intro wz hSw;obtain ⟨c1,c2,c3,c4⟩:=hSw;(first|(go_simp;done)|(go_simp;with_reducible rfl))
   (try simp only[Act.put,List.setIfInBounds_toArray,List.set_cons_zero,List.set_cons_succ])
   refine dH (fun _=>trivial) (by kernel_rfl) (i:=6) (oi:=_) (v:=?_) rfl (by kernel_rfl) (by kernel_rfl) (by kernel_rfl) (fun _ _ _ h=>h) (by assumption) (Or.inl ⟨by kernel_rfl,?_⟩) ?_;rotate_left
   ·intro wz hSw;obtain ⟨c1,c2,c3,c4⟩:=hSw;(first|(go_simp;done)|(go_simp;with_reducible rfl))
   (try simp only[Act.put,List.setIfInBounds_toArray,List.set_cons_zero,List.set_cons_succ])
   refine dH (fun _=>trivial) (by kernel_rfl) (i:=7) (oi:=_) (v:=?_) rfl (by kernel_rfl) (by kernel_rfl) (by kernel_rfl) (fun _ _ _ h=>h) (by assumption) (Or.inl ⟨by kernel_rfl,?_⟩) ?_;rotate_left
   ·intro wz hSw;obtain ⟨c1,c2,c3,c4⟩:=hSw;(first|(go_simp;done)|(go_simp;with_reducible rfl))
   (try simp only[Act.put,List.setIfInBounds_toArray,List.set_cons_zero,List.set_cons_succ])
   refine dH (fun _=>trivial) (by kernel_rfl) (i:=8) (oi:=_) (v:=?_) rfl (by kernel_rfl) (by kernel_rfl) (by kernel_rfl) (fun _ _ _ h=>h) (by assumption) (Or.inl ⟨by kernel_rfl,?_⟩) ?_;rotate_left
   ·intro wz hSw;obtain ⟨c1,c2,c3,c4⟩:=hSw;(first|(go_simp;done)|(go_simp;with_reducible rfl))
   (try simp only[Act.put,List.setIfInBounds_toArray,List.set_cons_zero,List.set_cons_succ])
   refine dO (fun _=>trivial) (i:=9) (o:=_) (by kernel_rfl) rfl (fun K hK=>?_);go_simp;refine hR.mono ?_;rintro e W3 (⟨rfl,hJ3⟩|⟨rfl,zX⟩)
   ·refine hK.out _ _ (HSH.out _ (Yy.out _ _ hJ3)) (fun hHeld=>?_)
    clear hK K;refine dH (fun _=>trivial) (by kernel_rfl) (i:=10) (oi:=_) (v:=?_) rfl (by kernel_rfl) (by kernel_rfl) (by kernel_rfl) (fun _ _ _ h=>h) (by assumption) (Or.inl ⟨by kernel_rfl,?_⟩) ?_;rotate_left
    ·intro wz hSw;obtain ⟨c1,c2,c3,c4⟩:=hSw;(first|(go_simp;done)|(go_simp;with_reducible rfl))
    (try simp only[Act.put,List.setIfInBounds_toArray,List.set_cons_zero,List.set_cons_succ])
    refine eH (by kernel_rfl) ?_ _;clear hHeld;gi_wp2
    go_roundw
    case rel=>exact ⟨k+1,by go_num,by omega,hJ3⟩
    case measure=>simp[intOf];omega
   ·refine hK.out _ _ (HSH.out _ (HJxB.out _ zX)) (fun hHeld=>?_)
    clear hK K;refine dH (fun _=>trivial) (by kernel_rfl) (i:=10) (oi:=_) (v:=?_) rfl (by kernel_rfl) (by kernel_rfl) (by kernel_rfl) (fun _ _ _ h=>h) (by assumption) (Or.inl ⟨by kernel_rfl,?_⟩) ?_;rotate_left
    ·intro wz hSw;obtain ⟨c1,c2,c3,c4⟩:=hSw;(first|(go_simp;done)|(go_simp;with_reducible rfl))
    (try simp only[Act.put,List.setIfInBounds_toArray,List.set_cons_zero,List.set_cons_succ])
    refine eH (by kernel_rfl) ?_ _;clear hHeld;gi_wp2;refine aO (results_none rfl _ _ _) rfl ?_;exact ⟨⟨_,rfl⟩,.inr zX⟩
  ·have iw:k=min xs.length ys.length:=by omega
   have hnlt:¬ (k:Int)<min (xs.length:Int) (ys.length:Int):=by omega
   have HKM:=aA iw;clear iw;gi_wp2
   go_end0
   exact ⟨⟨_,rfl⟩,.inl (by rw[←HKM.out];exact hJ)⟩
theorem Uw (oa ob:Option Addr)(la lb ca cb:Nat)(w:World):Calls prog 171 #[.slice oa la ca,.slice ob lb cb] w fun e w' =>
  e=.returned (.func (.func 181) #[] #[.pointer (some ⟨w.heap.size,0,none⟩),.pointer (some ⟨w.heap.size+1,0,none⟩)])∧w'=(w.alloc (.cells #[.slice oa la ca] 196)).alloc (.cells #[.slice ob lb cb] 196):=by
 go_enter func171,ntmps171;go_wp2;go_ret;exact ⟨rfl,rfl⟩
end Fx
namespace Fx
open Go Go.RowKit Wm
theorem Xs (xh yh H:Int)(xl yl n m p q b b2:Nat)(w:World)(r1:mW 182 xl yl n b)(r2:Words 182 p q b m b2)
  (e1:IntKind.u64.wrap xh=(p:Int)) (e2:IntKind.u64.wrap yh=(q:Int)) (e3:IntKind.i64.wrap (m:Int)=H)
  (Hx:Hid (decide (xh<0)=true)) (Hy:Hid (decide (yh<0)=true)) (HH:Hid (decide (H<0)=true)) :
  Calls prog 172 #[.agg #[.int .i64 xh,.int .u64 xl],.agg #[.int .i64 yh,.int .u64 yl]] w fun e w'=>e=.returned (.tuple #[.agg #[.int .i64 H,.int .u64 n],.int .i64 0])∧Below w.heap.size w w':=by
 unfold Words mW at *;go_enter func172,ntmps172;go_wp2
 go_region_held3 (fun w'=>w'.cell? ⟨w.heap.size,0,none⟩=some (.int .i64 xh)∧w'.cell? ⟨w.heap.size,1,none⟩=some (.int .u64 xl)∧w'.cell? ⟨w.heap.size+1,0,none⟩=some (.int .i64 yh)∧w'.cell? ⟨w.heap.size+1,1,none⟩=some (.int .u64 yl)∧w'.cell? ⟨w.heap.size+1+1,0,none⟩=some (.int .i64 0)∧w'.cell? ⟨w.heap.size+1+1,1,none⟩=some (.int .u64 0)∧w'.cell? ⟨w.heap.size+1+1+1,0,none⟩=some (.int .i64 H)∧w'.cell? ⟨w.heap.size+1+1+1,1,none⟩=some (.int .u64 n)∧w'.frozen? ⟨w.heap.size+1+1,0,none⟩=false∧w'.frozen? ⟨w.heap.size+1+1,1,none⟩=false∧w.heap.size+1+1+1+1≤w'.heap.size∧Below w.heap.size w w')
  (first|(go_split_ands;refine ⟨dE (by assumption) (by assumption),dE (by assumption) (by assumption),dE (by assumption) (by assumption),dE (by assumption) (by assumption),dE (by assumption) (by assumption),dE (by assumption) (by assumption),dE (by assumption) (by assumption),dE (by assumption) (by assumption),dK (by assumption) (by omega) (by assumption),dK (by assumption) (by omega) (by assumption),bH (by assumption) (Below.size (by assumption)),dN (by assumption) (by assumption)⟩)|(refine ⟨?_,?_,?_,?_,?_,?_,?_,?_,?_,?_,?_,?_⟩ <;> first|(with_reducible assumption)|(go_grown;done)|(simp[go_sem, *];done)|(simp[go_sem, *];omega)))
  ((first|(go_at_call 177;(with_reducible refine (fB xh xl _ _ Hx).mono ?_);rintro e w' ⟨rfl,kT⟩)|(go_at_call 177;(with_reducible refine (fB yh yl _ _ Hy).mono ?_);rintro e w' ⟨rfl,kT⟩)|(go_at_call 177;(with_reducible refine (fB H n _ _ HH).mono ?_);rintro e w' ⟨rfl,kT⟩)))
 go_split_ands
 all_goals
  go_wp2;refine aO (v:=.tuple #[.agg #[.int .i64 H,.int .u64 n],.int .i64 0]) (by simp[results,results172,go_sem, *]) rfl ⟨rfl,by (repeat' (first|(with_reducible exact aJ _ _)|(with_reducible assumption)|(with_reducible refine Below.drew ?_)|(with_reducible refine Below.setCell ?_ ?_ _)|(with_reducible refine dN ?_ (by assumption))|(with_reducible refine Below.alloc ?_ ?_ _)|go_size))⟩
theorem Xt (xh yh H:Int)(xl yl n m p q b b2:Nat)(w:World)(r1:mW 182 xl yl n b)(r2:Words 182 p q b m b2)
  (e1:IntKind.u64.wrap xh=(p:Int)) (e2:IntKind.u64.wrap yh=(q:Int)) (e3:IntKind.i64.wrap (m:Int)=H)
  (Hx:Hid (decide (xh<0)=true)) (Hy:Hid (decide (yh<0)=true)) (HH:Hid (decide (H<0)=false)) :
  Calls prog 172 #[.agg #[.int .i64 xh,.int .u64 xl],.agg #[.int .i64 yh,.int .u64 yl]] w fun e w'=>e=.returned (.tuple #[.agg #[.int .i64 0,.int .u64 0],.int .i64 20])∧Below w.heap.size w w':=by
 unfold Words mW at *;go_enter func172,ntmps172;go_wp2
 go_region_held3 (fun w'=>w'.cell? ⟨w.heap.size,0,none⟩=some (.int .i64 xh)∧w'.cell? ⟨w.heap.size,1,none⟩=some (.int .u64 xl)∧w'.cell? ⟨w.heap.size+1,0,none⟩=some (.int .i64 yh)∧w'.cell? ⟨w.heap.size+1,1,none⟩=some (.int .u64 yl)∧w'.cell? ⟨w.heap.size+1+1,0,none⟩=some (.int .i64 0)∧w'.cell? ⟨w.heap.size+1+1,1,none⟩=some (.int .u64 0)∧w'.cell? ⟨w.heap.size+1+1+1,0,none⟩=some (.int .i64 H)∧w'.cell? ⟨w.heap.size+1+1+1,1,none⟩=some (.int .u64 n)∧w'.frozen? ⟨w.heap.size+1+1,0,none⟩=false∧w'.frozen? ⟨w.heap.size+1+1,1,none⟩=false∧w.heap.size+1+1+1+1≤w'.heap.size∧Below w.heap.size w w')
  (first|(go_split_ands;refine ⟨dE (by assumption) (by assumption),dE (by assumption) (by assumption),dE (by assumption) (by assumption),dE (by assumption) (by assumption),dE (by assumption) (by assumption),dE (by assumption) (by assumption),dE (by assumption) (by assumption),dE (by assumption) (by assumption),dK (by assumption) (by omega) (by assumption),dK (by assumption) (by omega) (by assumption),bH (by assumption) (Below.size (by assumption)),dN (by assumption) (by assumption)⟩)|(refine ⟨?_,?_,?_,?_,?_,?_,?_,?_,?_,?_,?_,?_⟩ <;> first|(with_reducible assumption)|(go_grown;done)|(simp[go_sem, *];done)|(simp[go_sem, *];omega)))
  ((first|(go_at_call 177;(with_reducible refine (fB xh xl _ _ Hx).mono ?_);rintro e w' ⟨rfl,kT⟩)|(go_at_call 177;(with_reducible refine (fB yh yl _ _ Hy).mono ?_);rintro e w' ⟨rfl,kT⟩)|(go_at_call 177;(with_reducible refine (fB H n _ _ HH).mono ?_);rintro e w' ⟨rfl,kT⟩)))
 go_split_ands
 all_goals
  go_wp2;refine aO (v:=.tuple #[.agg #[.int .i64 0,.int .u64 0],.int .i64 20]) (by simp[results,results172,go_sem, *]) rfl ⟨rfl,by (repeat' (first|(with_reducible exact aJ _ _)|(with_reducible assumption)|(with_reducible refine Below.drew ?_)|(with_reducible refine Below.setCell ?_ ?_ _)|(with_reducible refine dN ?_ (by assumption))|(with_reducible refine Below.alloc ?_ ?_ _)|go_size))⟩
theorem add_tf (xh yh H:Int)(xl yl n m p q b b2:Nat)(w:World)(r1:mW 182 xl yl n b)(r2:Words 182 p q b m b2)
  (e1:IntKind.u64.wrap xh=(p:Int)) (e2:IntKind.u64.wrap yh=(q:Int)) (e3:IntKind.i64.wrap (m:Int)=H)
  (Hx:Hid (decide (xh<0)=true)) (Hy:Hid (decide (yh<0)=false)) :
  Calls prog 172 #[.agg #[.int .i64 xh,.int .u64 xl],.agg #[.int .i64 yh,.int .u64 yl]] w fun e w'=>e=.returned (.tuple #[.agg #[.int .i64 H,.int .u64 n],.int .i64 0])∧Below w.heap.size w w':=by
 unfold Words mW at *;go_enter func172,ntmps172;go_wp2
 go_region_with ((go_at_call 177;first|((with_reducible refine (fB xh xl _ _ Hx).mono ?_);rintro e w' ⟨rfl,kT⟩;have k0:w'.cell? ⟨w.heap.size,0,none⟩=some (.int .i64 xh):=dE kT (by first|assumption|(simp[go_sem];done));have k1:w'.cell? ⟨w.heap.size,1,none⟩=some (.int .u64 xl):=dE kT (by first|assumption|(simp[go_sem];done));have k2:w'.cell? ⟨w.heap.size+1,0,none⟩=some (.int .i64 yh):=dE kT (by first|assumption|(simp[go_sem];done));have k3:w'.cell? ⟨w.heap.size+1,1,none⟩=some (.int .u64 yl):=dE kT (by first|assumption|(simp[go_sem];done));have k4:w'.cell? ⟨w.heap.size+1+1,0,none⟩=some (.int .i64 0):=dE kT (by first|assumption|(simp[go_sem];done));have k5:w'.cell? ⟨w.heap.size+1+1,1,none⟩=some (.int .u64 0):=dE kT (by first|assumption|(simp[go_sem];done));have k6:w'.cell? ⟨w.heap.size+1+1+1,0,none⟩=some (.int .i64 H):=dE kT (by first|assumption|(simp[go_sem];done));have k7:w'.cell? ⟨w.heap.size+1+1+1,1,none⟩=some (.int .u64 n):=dE kT (by first|assumption|(simp[go_sem];done));have f0:w'.frozen? ⟨w.heap.size+1+1,0,none⟩=false:=dK kT (by first|omega|(simp[go_sem];done)|(simp[go_sem];omega)) (by first|assumption|(simp[go_sem];done));have f1:w'.frozen? ⟨w.heap.size+1+1,1,none⟩=false:=dK kT (by first|omega|(simp[go_sem];done)|(simp[go_sem];omega)) (by first|assumption|(simp[go_sem];done));have hs:w.heap.size+1+1+1+1≤w'.heap.size:=bH (by first|assumption|(simp[go_sem];done)) kT.size)|((with_reducible refine (fB yh yl _ _ Hy).mono ?_);rintro e w' ⟨rfl,kT⟩;have k0:w'.cell? ⟨w.heap.size,0,none⟩=some (.int .i64 xh):=dE kT (by first|assumption|(simp[go_sem];done));have k1:w'.cell? ⟨w.heap.size,1,none⟩=some (.int .u64 xl):=dE kT (by first|assumption|(simp[go_sem];done));have k2:w'.cell? ⟨w.heap.size+1,0,none⟩=some (.int .i64 yh):=dE kT (by first|assumption|(simp[go_sem];done));have k3:w'.cell? ⟨w.heap.size+1,1,none⟩=some (.int .u64 yl):=dE kT (by first|assumption|(simp[go_sem];done));have k4:w'.cell? ⟨w.heap.size+1+1,0,none⟩=some (.int .i64 0):=dE kT (by first|assumption|(simp[go_sem];done));have k5:w'.cell? ⟨w.heap.size+1+1,1,none⟩=some (.int .u64 0):=dE kT (by first|assumption|(simp[go_sem];done));have k6:w'.cell? ⟨w.heap.size+1+1+1,0,none⟩=some (.int .i64 H):=dE kT (by first|assumption|(simp[go_sem];done));have k7:w'.cell? ⟨w.heap.size+1+1+1,1,none⟩=some (.int .u64 n):=dE kT (by first|assumption|(simp[go_sem];done));have f0:w'.frozen? ⟨w.heap.size+1+1,0,none⟩=false:=dK kT (by first|omega|(simp[go_sem];done)|(simp[go_sem];omega)) (by first|assumption|(simp[go_sem];done));have f1:w'.frozen? ⟨w.heap.size+1+1,1,none⟩=false:=dK kT (by first|omega|(simp[go_sem];done)|(simp[go_sem];omega)) (by first|assumption|(simp[go_sem];done));have hs:w.heap.size+1+1+1+1≤w'.heap.size:=bH (by first|assumption|(simp[go_sem];done)) kT.size)))
 all_goals
  go_wp2;refine aO (v:=.tuple #[.agg #[.int .i64 H,.int .u64 n],.int .i64 0]) (by simp[results,results172,go_sem, *]) rfl ⟨rfl,by (repeat' (first|(with_reducible exact aJ _ _)|(with_reducible assumption)|(with_reducible refine Below.drew ?_)|(with_reducible refine Below.setCell ?_ ?_ _)|(with_reducible refine dN ?_ (by assumption))|(with_reducible refine Below.alloc ?_ ?_ _)|go_size))⟩
theorem add_ft (xh yh H:Int)(xl yl n m p q b b2:Nat)(w:World)(r1:mW 182 xl yl n b)(r2:Words 182 p q b m b2)
  (e1:IntKind.u64.wrap xh=(p:Int)) (e2:IntKind.u64.wrap yh=(q:Int)) (e3:IntKind.i64.wrap (m:Int)=H)
  (Hx:Hid (decide (xh<0)=false)) (Hy:Hid (decide (yh<0)=true)) :
  Calls prog 172 #[.agg #[.int .i64 xh,.int .u64 xl],.agg #[.int .i64 yh,.int .u64 yl]] w fun e w'=>e=.returned (.tuple #[.agg #[.int .i64 H,.int .u64 n],.int .i64 0])∧Below w.heap.size w w':=by
 unfold Words mW at *;go_enter func172,ntmps172;go_wp2
 go_region_with ((go_at_call 177;first|((with_reducible refine (fB xh xl _ _ Hx).mono ?_);rintro e w' ⟨rfl,kT⟩;have k0:w'.cell? ⟨w.heap.size,0,none⟩=some (.int .i64 xh):=dE kT (by first|assumption|(simp[go_sem];done));have k1:w'.cell? ⟨w.heap.size,1,none⟩=some (.int .u64 xl):=dE kT (by first|assumption|(simp[go_sem];done));have k2:w'.cell? ⟨w.heap.size+1,0,none⟩=some (.int .i64 yh):=dE kT (by first|assumption|(simp[go_sem];done));have k3:w'.cell? ⟨w.heap.size+1,1,none⟩=some (.int .u64 yl):=dE kT (by first|assumption|(simp[go_sem];done));have k4:w'.cell? ⟨w.heap.size+1+1,0,none⟩=some (.int .i64 0):=dE kT (by first|assumption|(simp[go_sem];done));have k5:w'.cell? ⟨w.heap.size+1+1,1,none⟩=some (.int .u64 0):=dE kT (by first|assumption|(simp[go_sem];done));have k6:w'.cell? ⟨w.heap.size+1+1+1,0,none⟩=some (.int .i64 H):=dE kT (by first|assumption|(simp[go_sem];done));have k7:w'.cell? ⟨w.heap.size+1+1+1,1,none⟩=some (.int .u64 n):=dE kT (by first|assumption|(simp[go_sem];done));have f0:w'.frozen? ⟨w.heap.size+1+1,0,none⟩=false:=dK kT (by first|omega|(simp[go_sem];done)|(simp[go_sem];omega)) (by first|assumption|(simp[go_sem];done));have f1:w'.frozen? ⟨w.heap.size+1+1,1,none⟩=false:=dK kT (by first|omega|(simp[go_sem];done)|(simp[go_sem];omega)) (by first|assumption|(simp[go_sem];done));have hs:w.heap.size+1+1+1+1≤w'.heap.size:=bH (by first|assumption|(simp[go_sem];done)) kT.size)|((with_reducible refine (fB yh yl _ _ Hy).mono ?_);rintro e w' ⟨rfl,kT⟩;have k0:w'.cell? ⟨w.heap.size,0,none⟩=some (.int .i64 xh):=dE kT (by first|assumption|(simp[go_sem];done));have k1:w'.cell? ⟨w.heap.size,1,none⟩=some (.int .u64 xl):=dE kT (by first|assumption|(simp[go_sem];done));have k2:w'.cell? ⟨w.heap.size+1,0,none⟩=some (.int .i64 yh):=dE kT (by first|assumption|(simp[go_sem];done));have k3:w'.cell? ⟨w.heap.size+1,1,none⟩=some (.int .u64 yl):=dE kT (by first|assumption|(simp[go_sem];done));have k4:w'.cell? ⟨w.heap.size+1+1,0,none⟩=some (.int .i64 0):=dE kT (by first|assumption|(simp[go_sem];done));have k5:w'.cell? ⟨w.heap.size+1+1,1,none⟩=some (.int .u64 0):=dE kT (by first|assumption|(simp[go_sem];done));have k6:w'.cell? ⟨w.heap.size+1+1+1,0,none⟩=some (.int .i64 H):=dE kT (by first|assumption|(simp[go_sem];done));have k7:w'.cell? ⟨w.heap.size+1+1+1,1,none⟩=some (.int .u64 n):=dE kT (by first|assumption|(simp[go_sem];done));have f0:w'.frozen? ⟨w.heap.size+1+1,0,none⟩=false:=dK kT (by first|omega|(simp[go_sem];done)|(simp[go_sem];omega)) (by first|assumption|(simp[go_sem];done));have f1:w'.frozen? ⟨w.heap.size+1+1,1,none⟩=false:=dK kT (by first|omega|(simp[go_sem];done)|(simp[go_sem];omega)) (by first|assumption|(simp[go_sem];done));have hs:w.heap.size+1+1+1+1≤w'.heap.size:=bH (by first|assumption|(simp[go_sem];done)) kT.size)))
 all_goals
  go_wp2;refine aO (v:=.tuple #[.agg #[.int .i64 H,.int .u64 n],.int .i64 0]) (by simp[results,results172,go_sem, *]) rfl ⟨rfl,by (repeat' (first|(with_reducible exact aJ _ _)|(with_reducible assumption)|(with_reducible refine Below.drew ?_)|(with_reducible refine Below.setCell ?_ ?_ _)|(with_reducible refine dN ?_ (by assumption))|(with_reducible refine Below.alloc ?_ ?_ _)|go_size))⟩
theorem Xu (xh yh H:Int)(xl yl n m p q b b2:Nat)(w:World)(r1:mW 182 xl yl n b)(r2:Words 182 p q b m b2)
  (e1:IntKind.u64.wrap xh=(p:Int)) (e2:IntKind.u64.wrap yh=(q:Int)) (e3:IntKind.i64.wrap (m:Int)=H)
  (Hx:Hid (decide (xh<0)=false)) (Hy:Hid (decide (yh<0)=false)) (HH:Hid (decide (H<0)=true)) :
  Calls prog 172 #[.agg #[.int .i64 xh,.int .u64 xl],.agg #[.int .i64 yh,.int .u64 yl]] w fun e w'=>e=.returned (.tuple #[.agg #[.int .i64 0,.int .u64 0],.int .i64 20])∧Below w.heap.size w w':=by
 unfold Words mW at *;go_enter func172,ntmps172;go_wp2
 go_region_held3 (fun w'=>w'.cell? ⟨w.heap.size,0,none⟩=some (.int .i64 xh)∧w'.cell? ⟨w.heap.size,1,none⟩=some (.int .u64 xl)∧w'.cell? ⟨w.heap.size+1,0,none⟩=some (.int .i64 yh)∧w'.cell? ⟨w.heap.size+1,1,none⟩=some (.int .u64 yl)∧w'.cell? ⟨w.heap.size+1+1,0,none⟩=some (.int .i64 0)∧w'.cell? ⟨w.heap.size+1+1,1,none⟩=some (.int .u64 0)∧w'.cell? ⟨w.heap.size+1+1+1,0,none⟩=some (.int .i64 H)∧w'.cell? ⟨w.heap.size+1+1+1,1,none⟩=some (.int .u64 n)∧w'.frozen? ⟨w.heap.size+1+1,0,none⟩=false∧w'.frozen? ⟨w.heap.size+1+1,1,none⟩=false∧w.heap.size+1+1+1+1≤w'.heap.size∧Below w.heap.size w w')
  (first|(go_split_ands;refine ⟨dE (by assumption) (by assumption),dE (by assumption) (by assumption),dE (by assumption) (by assumption),dE (by assumption) (by assumption),dE (by assumption) (by assumption),dE (by assumption) (by assumption),dE (by assumption) (by assumption),dE (by assumption) (by assumption),dK (by assumption) (by omega) (by assumption),dK (by assumption) (by omega) (by assumption),bH (by assumption) (Below.size (by assumption)),dN (by assumption) (by assumption)⟩)|(refine ⟨?_,?_,?_,?_,?_,?_,?_,?_,?_,?_,?_,?_⟩ <;> first|(with_reducible assumption)|(go_grown;done)|(simp[go_sem, *];done)|(simp[go_sem, *];omega)))
  ((first|(go_at_call 177;(with_reducible refine (fB xh xl _ _ Hx).mono ?_);rintro e w' ⟨rfl,kT⟩)|(go_at_call 177;(with_reducible refine (fB yh yl _ _ Hy).mono ?_);rintro e w' ⟨rfl,kT⟩)|(go_at_call 177;(with_reducible refine (fB H n _ _ HH).mono ?_);rintro e w' ⟨rfl,kT⟩)))
 go_split_ands
 all_goals
  go_wp2;refine aO (v:=.tuple #[.agg #[.int .i64 0,.int .u64 0],.int .i64 20]) (by simp[results,results172,go_sem, *]) rfl ⟨rfl,by (repeat' (first|(with_reducible exact aJ _ _)|(with_reducible assumption)|(with_reducible refine Below.drew ?_)|(with_reducible refine Below.setCell ?_ ?_ _)|(with_reducible refine dN ?_ (by assumption))|(with_reducible refine Below.alloc ?_ ?_ _)|go_size))⟩
theorem Xv (xh yh H:Int)(xl yl n m p q b b2:Nat)(w:World)(r1:mW 182 xl yl n b)(r2:Words 182 p q b m b2)
  (e1:IntKind.u64.wrap xh=(p:Int)) (e2:IntKind.u64.wrap yh=(q:Int)) (e3:IntKind.i64.wrap (m:Int)=H)
  (Hx:Hid (decide (xh<0)=false)) (Hy:Hid (decide (yh<0)=false)) (HH:Hid (decide (H<0)=false)) :
  Calls prog 172 #[.agg #[.int .i64 xh,.int .u64 xl],.agg #[.int .i64 yh,.int .u64 yl]] w fun e w'=>e=.returned (.tuple #[.agg #[.int .i64 H,.int .u64 n],.int .i64 0])∧Below w.heap.size w w':=by
 unfold Words mW at *;go_enter func172,ntmps172;go_wp2
 go_region_held3 (fun w'=>w'.cell? ⟨w.heap.size,0,none⟩=some (.int .i64 xh)∧w'.cell? ⟨w.heap.size,1,none⟩=some (.int .u64 xl)∧w'.cell? ⟨w.heap.size+1,0,none⟩=some (.int .i64 yh)∧w'.cell? ⟨w.heap.size+1,1,none⟩=some (.int .u64 yl)∧w'.cell? ⟨w.heap.size+1+1,0,none⟩=some (.int .i64 0)∧w'.cell? ⟨w.heap.size+1+1,1,none⟩=some (.int .u64 0)∧w'.cell? ⟨w.heap.size+1+1+1,0,none⟩=some (.int .i64 H)∧w'.cell? ⟨w.heap.size+1+1+1,1,none⟩=some (.int .u64 n)∧w'.frozen? ⟨w.heap.size+1+1,0,none⟩=false∧w'.frozen? ⟨w.heap.size+1+1,1,none⟩=false∧w.heap.size+1+1+1+1≤w'.heap.size∧Below w.heap.size w w')
  (first|(go_split_ands;refine ⟨dE (by assumption) (by assumption),dE (by assumption) (by assumption),dE (by assumption) (by assumption),dE (by assumption) (by assumption),dE (by assumption) (by assumption),dE (by assumption) (by assumption),dE (by assumption) (by assumption),dE (by assumption) (by assumption),dK (by assumption) (by omega) (by assumption),dK (by assumption) (by omega) (by assumption),bH (by assumption) (Below.size (by assumption)),dN (by assumption) (by assumption)⟩)|(refine ⟨?_,?_,?_,?_,?_,?_,?_,?_,?_,?_,?_,?_⟩ <;> first|(with_reducible assumption)|(go_grown;done)|(simp[go_sem, *];done)|(simp[go_sem, *];omega)))
  ((first|(go_at_call 177;(with_reducible refine (fB xh xl _ _ Hx).mono ?_);rintro e w' ⟨rfl,kT⟩)|(go_at_call 177;(with_reducible refine (fB yh yl _ _ Hy).mono ?_);rintro e w' ⟨rfl,kT⟩)|(go_at_call 177;(with_reducible refine (fB H n _ _ HH).mono ?_);rintro e w' ⟨rfl,kT⟩)))
 go_split_ands
 all_goals
  go_wp2;refine aO (v:=.tuple #[.agg #[.int .i64 H,.int .u64 n],.int .i64 0]) (by simp[results,results172,go_sem, *]) rfl ⟨rfl,by (repeat' (first|(with_reducible exact aJ _ _)|(with_reducible assumption)|(with_reducible refine Below.drew ?_)|(with_reducible refine Below.setCell ?_ ?_ _)|(with_reducible refine dN ?_ (by assumption))|(with_reducible refine Below.alloc ?_ ?_ _)|go_size))⟩
theorem Cg (x y xh yh:Int)(xl yl:Nat)(w:World)(hx:At x xh xl)(hy:At y yh yl) :
  Calls prog 172 #[.agg #[.int .i64 xh,.int .u64 xl],.agg #[.int .i64 yh,.int .u64 yl]] w (RetE (x+y) w):=by
 have r1:mW 182 xl yl _ _:=fun w=>CX xl yl w
 have L:=add_at hx hy;have e1:IntKind.u64.wrap xh=(uw xh:Int):=by rw[aV,sU]
 have e2:IntKind.u64.wrap yh=(uw yh:Int):=by rw[aV,sU]
 obtain ⟨z,hz⟩:∃z,pL (x+y)=z:=⟨_,rfl⟩;have F:=Qe hx.inn hy.inn hz;rw[hz] at L;have hxs:=hx.neg;have hys:=hy.neg;have hb1:(xl+yl)/18446744073709551616≤1:=by have:=hx.2.1;have:=hy.2.1;omega
 have r2:Words 182 (uw xh) (uw yh) _ _ _:=fun w=>run_add64 (uw xh) (uw yh) _ hb1 w
 have e3:=bL (((uw xh+uw yh+(xl+yl)/18446744073709551616)%18446744073709551616:Nat):Int);have hzs:=L.neg;clear hx hy;generalize ((((uw xh+uw yh+(xl+yl)/18446744073709551616)%18446744073709551616:Nat):Int)+9223372036854775808)%18446744073709551616-9223372036854775808=H at *
 cases c1:decide (xh<0) <;> cases c2:decide (yh<0)
 ·have d1:=of_decide_eq_false c1
  have d2:=of_decide_eq_false c2
  cases c3:decide (H<0)
  ·have d3:=of_decide_eq_false c3
   exact (Xv xh yh H xl yl _ _ _ _ _ _ w r1 r2 e1 e2 e3 (aA c1) (aA c2) (aA c3)).mono fun e w' ⟨he,hb⟩=>he▸ZB (F.2 (by omega)) hz L hb
  ·have d3:=of_decide_eq_true c3
   exact (Xu xh yh H xl yl _ _ _ _ _ _ w r1 r2 e1 e2 e3 (aA c1) (aA c2) (aA c3)).mono fun e w' ⟨he,hb⟩=>he▸Kk (fun hi=>by have:=F.1 hi;omega) hb
 ·have d1:=of_decide_eq_false c1
  have d2:=of_decide_eq_true c2;exact (add_ft xh yh H xl yl _ _ _ _ _ _ w r1 r2 e1 e2 e3 (aA c1) (aA c2)).mono fun e w' ⟨he,hb⟩=>he▸ZB (F.2 (by omega)) hz L hb
 ·have d1:=of_decide_eq_true c1
  have d2:=of_decide_eq_false c2;exact (add_tf xh yh H xl yl _ _ _ _ _ _ w r1 r2 e1 e2 e3 (aA c1) (aA c2)).mono fun e w' ⟨he,hb⟩=>he▸ZB (F.2 (by omega)) hz L hb
 ·have d1:=of_decide_eq_true c1
  have d2:=of_decide_eq_true c2
  cases c3:decide (H<0)
  ·have d3:=of_decide_eq_false c3
   exact (Xt xh yh H xl yl _ _ _ _ _ _ w r1 r2 e1 e2 e3 (aA c1) (aA c2) (aA c3)).mono fun e w' ⟨he,hb⟩=>he▸Kk (fun hi=>by have:=F.1 hi;omega) hb
  ·have d3:=of_decide_eq_true c3
   exact (Xs xh yh H xl yl _ _ _ _ _ _ w r1 r2 e1 e2 e3 (aA c1) (aA c2) (aA c3)).mono fun e w' ⟨he,hb⟩=>he▸ZB (F.2 (by omega)) hz L hb
end Fx
end Go.Proofs.YtbbhmhihpdmoiaaGreat
